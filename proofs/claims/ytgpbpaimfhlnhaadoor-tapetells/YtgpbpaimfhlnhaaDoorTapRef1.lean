/- Contracts over this seat's translation: the document's Event, Events, EventText. -/
import Derived.Test.YtgpbpaimfhlnhaaDoorTapTxt
namespace Go.Proofs.YtgpbpaimfhlnhaaDoor.tap
open Go.RowKit Go.Proofs.YtgpbpaimfhlnhaaDoor.mee Go.Proofs.YtgpbpaimfhlnhaaDoor.flr Go.Proofs.YtgpbpaimfhlnhaaDoor.bld
open Go.Proofs.YtgpbpaimfhlnhaaDoor.spn (keeps rangeE errV errV_zero errV_of)

def wB (n : Int) : Bool := decide (1 ≤ n) && decide (n ≤ 9)
def pB (n : Int) : Bool := decide (1 ≤ n) && decide (n ≤ 10000)
theorem rwho_any (n : Int) (w : World) : Calls Tryd.prog 28 #[.int .i64 n] w fun e w' => e = .returned (.bool (wB n)) ∧ w' = w := by
  by_cases h : 1 ≤ n
  · by_cases h2 : n ≤ 9
    · have e : wB n = true := by simp [wB, h, h2]
      rw [e]
      clear e
      go_enter Tryd.func28, Tryd.ntmps28
      go_wp2
      go_ret
      exact ⟨by simp [*], rfl⟩
    · have e : wB n = false := by simp [wB]; omega
      rw [e]
      clear e
      go_enter Tryd.func28, Tryd.ntmps28
      go_wp2
      go_ret
      exact ⟨by simp [*], rfl⟩
  · have e : wB n = false := by simp [wB]; omega
    rw [e]
    clear e
    go_enter Tryd.func28, Tryd.ntmps28
    go_wp2
    go_ret
    exact ⟨by simp [*], rfl⟩
theorem rprc_any (n : Int) (w : World) : Calls Tryd.prog 29 #[.int .i64 n] w fun e w' => e = .returned (.bool (pB n)) ∧ w' = w := by
  by_cases h : 1 ≤ n
  · by_cases h2 : n ≤ 10000
    · have e : pB n = true := by simp [pB, h, h2]
      rw [e]
      clear e
      go_enter Tryd.func29, Tryd.ntmps29
      go_wp2
      go_ret
      exact ⟨by simp [*], rfl⟩
    · have e : pB n = false := by simp [pB]; omega
      rw [e]
      clear e
      go_enter Tryd.func29, Tryd.ntmps29
      go_wp2
      go_ret
      exact ⟨by simp [*], rfl⟩
  · have e : pB n = false := by simp [pB]; omega
    rw [e]
    clear e
    go_enter Tryd.func29, Tryd.ntmps29
    go_wp2
    go_ret
    exact ⟨by simp [*], rfl⟩
theorem bad_one {e : Ev} (h : ¬ evB e = true) : (if evB e = true then (0 : Int) else 1) = 1 := if_neg h
set_option maxHeartbeats 1000000 in
theorem rev_no (e1 e2 e3 e4 t1 t2 t3 t4 t5 t6 : Int) (w : World) (h2 : ¬ e1 = 2) :
    Calls Tryd.prog 14 #[.agg #[.int .i64 e1, .int .i64 e2, .int .i64 e3, .int .i64 e4, .int .i64 t1, .int .i64 t2, .int .i64 t3, .int .i64 t4, .int .i64 t5, .int .i64 t6]] w fun x w' => x = .returned (.int .i64 (if otB ⟨e1, e2, e3, e4, ⟨t1, t2, t3, t4, t5, t6⟩⟩ = true then 0 else 1)) ∧ Below w.heap.size w w' := by
  have hB : Below w.heap.size w (w.alloc (.cells #[.int .i64 e1, .int .i64 e2, .int .i64 e3, .int .i64 e4, .int .i64 t1, .int .i64 t2, .int .i64 t3, .int .i64 t4, .int .i64 t5, .int .i64 t6] 33)) := (Below.refl _ _).alloc (Nat.le_refl _) _
  have hb2 : (e1 == 2) = false := by simp [h2]
  by_cases g0 : e1 < 1
  · rw [if_neg (by simp [otB]; omega)]
    clear h2
    go_enter Tryd.func14, Tryd.ntmps14
    go_wp2
    go_ret
    exact ⟨rfl, hB⟩
  by_cases g1 : 5 < e1
  · rw [if_neg (by simp [otB]; omega)]
    clear h2
    go_enter Tryd.func14, Tryd.ntmps14
    go_wp2
    go_ret
    exact ⟨rfl, hB⟩
  by_cases g2 : e2 < 1
  · rw [if_neg (by simp [otB]; omega)]
    clear h2
    go_enter Tryd.func14, Tryd.ntmps14
    go_wp2
    go_ret
    exact ⟨rfl, hB⟩
  by_cases g3 : 9999 < e2
  · rw [if_neg (by simp [otB]; omega)]
    clear h2
    go_enter Tryd.func14, Tryd.ntmps14
    go_wp2
    go_ret
    exact ⟨rfl, hB⟩
  by_cases g4 : e3 < 0
  · rw [if_neg (by simp [otB]; omega)]
    clear h2
    go_enter Tryd.func14, Tryd.ntmps14
    go_wp2
    go_ret
    exact ⟨rfl, hB⟩
  by_cases g5 : 10000 < e3
  · rw [if_neg (by simp [otB]; omega)]
    clear h2
    go_enter Tryd.func14, Tryd.ntmps14
    go_wp2
    go_ret
    exact ⟨rfl, hB⟩
  by_cases g6 : e4 < 0
  · rw [if_neg (by simp [otB]; omega)]
    clear h2
    go_enter Tryd.func14, Tryd.ntmps14
    go_wp2
    go_ret
    exact ⟨rfl, hB⟩
  by_cases g7 : 10000 < e4
  · rw [if_neg (by simp [otB]; omega)]
    clear h2
    go_enter Tryd.func14, Tryd.ntmps14
    go_wp2
    go_ret
    exact ⟨rfl, hB⟩
  · rw [if_pos (by simp [otB]; omega)]
    clear h2
    go_enter Tryd.func14, Tryd.ntmps14
    go_wp2
    go_ret
    exact ⟨rfl, hB⟩
set_option maxHeartbeats 1000000 in
theorem rev_yes (e2 e3 e4 t1 t2 t3 t4 t5 t6 : Int) (w : World) :
    Calls Tryd.prog 14 #[.agg #[.int .i64 2, .int .i64 e2, .int .i64 e3, .int .i64 e4, .int .i64 t1, .int .i64 t2, .int .i64 t3, .int .i64 t4, .int .i64 t5, .int .i64 t6]] w fun x w' => x = .returned (.int .i64 (if tdB ⟨t1, t2, t3, t4, t5, t6⟩ = true then 0 else 1)) ∧ Below w.heap.size w w' := by
  have hB : Below w.heap.size w ((w.alloc (.cells #[.int .i64 2, .int .i64 e2, .int .i64 e3, .int .i64 e4, .int .i64 t1, .int .i64 t2, .int .i64 t3, .int .i64 t4, .int .i64 t5, .int .i64 t6] 33)).alloc (.cells #[.int .i64 t1, .int .i64 t2, .int .i64 t3, .int .i64 t4, .int .i64 t5, .int .i64 t6] 31)) := ((Below.refl _ _).alloc (Nat.le_refl _) _).alloc (by simp) _
  have HA := hidT (fun W => rwho_any t3 W)
  have HB := hidT (fun W => rwho_any t4 W)
  have HC := hidT (fun W => rprc_any t5 W)
  obtain ⟨a, ha⟩ : ∃ a, wB t3 = a := ⟨_, rfl⟩
  obtain ⟨b, hb⟩ : ∃ b, wB t4 = b := ⟨_, rfl⟩
  obtain ⟨c, hc⟩ : ∃ c, pB t5 = c := ⟨_, rfl⟩
  rw [ha] at HA
  rw [hb] at HB
  rw [hc] at HC
  unfold wB at ha hb
  unfold pB at hc
  cases a
  · rw [if_neg (by simp [tdB] at ha hb hc ⊢; omega)]
    clear ha hb hc
    go_enter Tryd.func14, Tryd.ntmps14
    go_wp2_with fail
    refine (HA.out _).mono ?_
    rintro e w1 ⟨rfl, rfl⟩
    go_wp2_with fail
    refine (HB.out _).mono ?_
    rintro e w2 ⟨rfl, rfl⟩
    go_wp2_with fail
    refine (HC.out _).mono ?_
    rintro e w3 ⟨rfl, rfl⟩
    go_wp2_with fail
    go_ret
    exact ⟨rfl, hB⟩
  · have h0a : True := trivial
    cases b
    · rw [if_neg (by simp [tdB] at ha hb hc ⊢; omega)]
      clear ha hb hc
      go_enter Tryd.func14, Tryd.ntmps14
      go_wp2_with fail
      refine (HA.out _).mono ?_
      rintro e w1 ⟨rfl, rfl⟩
      go_wp2_with fail
      refine (HB.out _).mono ?_
      rintro e w2 ⟨rfl, rfl⟩
      go_wp2_with fail
      refine (HC.out _).mono ?_
      rintro e w3 ⟨rfl, rfl⟩
      go_wp2_with fail
      go_ret
      exact ⟨rfl, hB⟩
    · have h0b : True := trivial
      cases c
      · rw [if_neg (by simp [tdB] at ha hb hc ⊢; omega)]
        clear ha hb hc
        go_enter Tryd.func14, Tryd.ntmps14
        go_wp2_with fail
        refine (HA.out _).mono ?_
        rintro e w1 ⟨rfl, rfl⟩
        go_wp2_with fail
        refine (HB.out _).mono ?_
        rintro e w2 ⟨rfl, rfl⟩
        go_wp2_with fail
        refine (HC.out _).mono ?_
        rintro e w3 ⟨rfl, rfl⟩
        go_wp2_with fail
        go_ret
        exact ⟨rfl, hB⟩
      · have h0c : True := trivial
        by_cases g0 : t1 < 1
        · rw [if_neg (by simp [tdB] at ha hb hc ⊢; omega)]
          clear ha hb hc
          go_enter Tryd.func14, Tryd.ntmps14
          go_wp2_with fail
          refine (HA.out _).mono ?_
          rintro e w1 ⟨rfl, rfl⟩
          go_wp2_with fail
          refine (HB.out _).mono ?_
          rintro e w2 ⟨rfl, rfl⟩
          go_wp2_with fail
          refine (HC.out _).mono ?_
          rintro e w3 ⟨rfl, rfl⟩
          go_wp2_with fail
          go_ret
          exact ⟨rfl, hB⟩
        by_cases g1 : 9999 < t1
        · rw [if_neg (by simp [tdB] at ha hb hc ⊢; omega)]
          clear ha hb hc
          go_enter Tryd.func14, Tryd.ntmps14
          go_wp2_with fail
          refine (HA.out _).mono ?_
          rintro e w1 ⟨rfl, rfl⟩
          go_wp2_with fail
          refine (HB.out _).mono ?_
          rintro e w2 ⟨rfl, rfl⟩
          go_wp2_with fail
          refine (HC.out _).mono ?_
          rintro e w3 ⟨rfl, rfl⟩
          go_wp2_with fail
          go_ret
          exact ⟨rfl, hB⟩
        by_cases g2 : t2 < 1
        · rw [if_neg (by simp [tdB] at ha hb hc ⊢; omega)]
          clear ha hb hc
          go_enter Tryd.func14, Tryd.ntmps14
          go_wp2_with fail
          refine (HA.out _).mono ?_
          rintro e w1 ⟨rfl, rfl⟩
          go_wp2_with fail
          refine (HB.out _).mono ?_
          rintro e w2 ⟨rfl, rfl⟩
          go_wp2_with fail
          refine (HC.out _).mono ?_
          rintro e w3 ⟨rfl, rfl⟩
          go_wp2_with fail
          go_ret
          exact ⟨rfl, hB⟩
        by_cases g3 : 9999 < t2
        · rw [if_neg (by simp [tdB] at ha hb hc ⊢; omega)]
          clear ha hb hc
          go_enter Tryd.func14, Tryd.ntmps14
          go_wp2_with fail
          refine (HA.out _).mono ?_
          rintro e w1 ⟨rfl, rfl⟩
          go_wp2_with fail
          refine (HB.out _).mono ?_
          rintro e w2 ⟨rfl, rfl⟩
          go_wp2_with fail
          refine (HC.out _).mono ?_
          rintro e w3 ⟨rfl, rfl⟩
          go_wp2_with fail
          go_ret
          exact ⟨rfl, hB⟩
        by_cases g4 : t6 < 1
        · rw [if_neg (by simp [tdB] at ha hb hc ⊢; omega)]
          clear ha hb hc
          go_enter Tryd.func14, Tryd.ntmps14
          go_wp2_with fail
          refine (HA.out _).mono ?_
          rintro e w1 ⟨rfl, rfl⟩
          go_wp2_with fail
          refine (HB.out _).mono ?_
          rintro e w2 ⟨rfl, rfl⟩
          go_wp2_with fail
          refine (HC.out _).mono ?_
          rintro e w3 ⟨rfl, rfl⟩
          go_wp2_with fail
          go_ret
          exact ⟨rfl, hB⟩
        by_cases g5 : 10000 < t6
        · rw [if_neg (by simp [tdB] at ha hb hc ⊢; omega)]
          clear ha hb hc
          go_enter Tryd.func14, Tryd.ntmps14
          go_wp2_with fail
          refine (HA.out _).mono ?_
          rintro e w1 ⟨rfl, rfl⟩
          go_wp2_with fail
          refine (HB.out _).mono ?_
          rintro e w2 ⟨rfl, rfl⟩
          go_wp2_with fail
          refine (HC.out _).mono ?_
          rintro e w3 ⟨rfl, rfl⟩
          go_wp2_with fail
          go_ret
          exact ⟨rfl, hB⟩
        · rw [if_pos (by simp [tdB] at ha hb hc ⊢; omega)]
          clear ha hb hc
          go_enter Tryd.func14, Tryd.ntmps14
          go_wp2_with fail
          refine (HA.out _).mono ?_
          rintro e w1 ⟨rfl, rfl⟩
          go_wp2_with fail
          refine (HB.out _).mono ?_
          rintro e w2 ⟨rfl, rfl⟩
          go_wp2_with fail
          refine (HC.out _).mono ?_
          rintro e w3 ⟨rfl, rfl⟩
          go_wp2_with fail
          go_ret
          exact ⟨rfl, hB⟩
theorem rev_any (x : Ev) (w : World) :
    Calls Tryd.prog 14 #[.agg (evL x).toArray] w fun e w' => e = .returned (.int .i64 (rangeE (badE x))) ∧ Below w.heap.size w w' := by
  have e : rangeE (badE x) = if evB x = true then 0 else 1 := by
    unfold badE rangeE
    cases evB x <;> rfl
  rw [e]
  obtain ⟨e1, e2, e3, e4, ⟨t1, t2, t3, t4, t5, t6⟩⟩ := x
  unfold evB
  by_cases h : e1 = 2
  · subst h
    rw [if_pos rfl]
    exact rev_yes e2 e3 e4 t1 t2 t3 t4 t5 t6 w
  · simp only
    rw [if_neg h]
    exact rev_no e1 e2 e3 e4 t1 t2 t3 t4 t5 t6 w h
/-- The first event that is wrong. -/
theorem any_take {zs : List Ev} {k : Nat} (h : k < zs.length) (hb : badE zs[k]! = true) : zs.any badE = true := by
  rw [List.any_eq_true]
  exact ⟨zs[k]!, by rw [getE _ _ h]; exact List.getElem_mem h, hb⟩
set_option maxRecDepth 100000 in
set_option maxHeartbeats 2000000 in
theorem revs_any (v : Value) (zs : List Ev) (w : World) (h : EL w v zs) :
    Calls Tryd.prog 5 #[v] w fun e w' => e = .returned (.int .i64 (tchk zs)) ∧ Below w.heap.size w w' := by
  obtain ⟨q, c, rfl, hnn⟩ := h.form
  have HEL := hidT h
  unfold tchk
  by_cases h4 : 400 < zs.length
  · rw [if_pos h4]
    generalize zs.length = n at *
    have h4z : (400 : Int) < (n : Int) := by omega
    have hlen : (n : Int) ≤ 9223372036854775807 := by omega
    clear h
    go_enter Tryd.func5, Tryd.ntmps5
    go_wp2_with fail
    go_ret
    exact ⟨rfl, Below.refl _ _⟩
  rw [if_neg h4]
  obtain ⟨n, hN⟩ : ∃ n, zs.length = n := ⟨_, rfl⟩
  have HN := hidT hN
  rw [hN] at h4 HEL
  simp only [hN]
  have h4z : ¬ (400 : Int) < (n : Int) := by omega
  have hlen : (n : Int) ≤ 9223372036854775807 := by omega
  have HN4 : Hid (n ≤ 400) := by show n ≤ 400; omega
  have HRE : Hid (∀ k, k < n → badE zs[k]! = true → zs.any badE = true) := fun k hk hb => any_take (by rw [HN.out]; exact hk) hb
  have HRZ : Hid ((∀ k, k < n → badE zs[k]! = false) → zs.any badE = false) := fun hb => by
    rw [List.any_eq_false]
    intro x hx
    obtain ⟨i, hi, rfl⟩ := List.mem_iff_getElem.1 hx
    have := hb i (by rw [← HN.out]; exact hi)
    rw [getE _ _ hi] at this
    simp [this]
  generalize zs.any badE = r at *
  clear h h4 hN hnn
  go_enter Tryd.func5, Tryd.ntmps5
  go_wp2_with fail
  go_loopg [3, 4] n (fun gg s3 _ wr => ∃ kk : Nat, kk ≤ n ∧ n - kk ≤ gg ∧ s3 = .int .i64 kk ∧ Aside (Below w.heap.size w wr) ∧ Aside (∀ j, j < kk → badE zs[j]! = false))
  case atStart => exact ⟨0, Nat.zero_le _, by omega, rfl, Below.refl _ _, fun j hj => absurd hj (Nat.not_lt_zero j)⟩
  case round =>
    obtain ⟨kk, hkk, hg, rfl, BW, BZ⟩ := hrel
    by_cases hlt : kk < n
    · have hltz : (kk : Int) < (n : Int) := by omega
      have hin1 : ¬ ((kk : Int) < 0) := by omega
      obtain ⟨g, off, rfl, hgl, hcc⟩ := HEL.out.at (by rw [HN.out]; exact hlt)
      have HR1 := hidT (HRE.out kk hlt)
      have HZ1 : Hid (badE zs[kk]! = false → ∀ j, j < kk + 1 → badE zs[j]! = false) := fun hq j hj => by
        by_cases e : j = kk
        · subst e; exact hq
        · exact BZ.out j (by omega)
      obtain ⟨x, hx⟩ : ∃ x, zs[kk]! = x := ⟨_, rfl⟩
      rw [hx] at hcc HR1
      have HZ2 : Hid (badE x = false → ∀ j, j < kk + 1 → badE zs[j]! = false) := by rw [← hx]; exact HZ1.out
      have hca := rev_any x wr
      obtain ⟨y, hy⟩ : ∃ y, badE x = y := ⟨_, rfl⟩
      rw [hy] at hca HR1 HZ2
      obtain ⟨e1, e2, e3, e4, ⟨t1, t2, t3, t4, t5, t6⟩⟩ := x
      simp only [evL, tV, List.cons_append, List.nil_append] at hca
      have HCA := hidT hca
      have c0 := keeps BW.out (hcc 0 _ rfl)
      have c1 := keeps BW.out (hcc 1 _ rfl)
      have c2 := keeps BW.out (hcc 2 _ rfl)
      have c3 := keeps BW.out (hcc 3 _ rfl)
      have c4 := keeps BW.out (hcc 4 _ rfl)
      have c5 := keeps BW.out (hcc 5 _ rfl)
      have c6 := keeps BW.out (hcc 6 _ rfl)
      have c7 := keeps BW.out (hcc 7 _ rfl)
      have c8 := keeps BW.out (hcc 8 _ rfl)
      have c9 := keeps BW.out (hcc 9 _ rfl)
      simp only [Nat.add_zero] at c0
      have HWK := hidT (wrapSuccT kk n hlt (by have := HN4.out; omega))
      have HKK : Hid (kk < n ∧ n - kk ≤ gk) := ⟨hlt, hg⟩
      have hgw : g < wr.heap.size := Nat.lt_of_lt_of_le hgl BW.out.size
      clear hcc hx hy hkk hg hlt hca HZ1
      cases y
      · simp only [show rangeE false = 0 from rfl] at HCA
        have HZ3 := hidT (HZ2.out rfl)
        go_wp2_with fail
        refine HCA.out.mono ?_
        rintro e W3 ⟨rfl, hb3⟩
        have HB3 := hidT (BW.out.trans (hb3.mono BW.out.size))
        clear hb3 HCA c0 c1 c2 c3 c4 c5 c6 c7 c8 c9
        go_wp2_with fail
        go_roundg (n - (kk + 1))
        case measure => have := HKK.out; omega
        case rel => exact ⟨kk + 1, HKK.out.1, Nat.le_refl _, by go_num, HB3.out, HZ3.out⟩
      · simp only [show rangeE true = 1 from rfl] at HCA
        have hr := HR1.out rfl
        subst hr
        go_wp2_with fail
        refine HCA.out.mono ?_
        rintro e W3 ⟨rfl, hb3⟩
        have HB3 := hidT (BW.out.trans (hb3.mono BW.out.size))
        clear hb3 HCA c0 c1 c2 c3 c4 c5 c6 c7 c8 c9
        go_wp2_with fail
        go_ret
        exact ⟨rfl, HB3.out⟩
    · have hltz : ¬ (kk : Int) < (n : Int) := by omega
      have hke : kk = n := by omega
      have hr := HRZ.out (fun k hk => BZ.out k (by omega))
      subst hr
      clear hke
      go_wp2_with fail
      go_ret
      exact ⟨rfl, BW.out⟩
end Go.Proofs.YtgpbpaimfhlnhaaDoor.tap
