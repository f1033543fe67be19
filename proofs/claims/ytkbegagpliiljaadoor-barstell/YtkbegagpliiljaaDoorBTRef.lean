/- What the document's Deals, BarOf and Bar answer. -/
import Derived.Test.YtkbegagpliiljaaDoorBarMean
namespace Go.Proofs.YtkbegagpliiljaaDoor.bar
open Go.RowKit Go.Proofs.YtkbegagpliiljaaDoor.mee
open Go.Proofs.YtkbegagpliiljaaDoor.spn (keeps spanB)

theorem rprice_any (p : Int) (w : World) : Calls Tryd.prog 12 #[.int .i64 p] w fun e w' => e = .returned (.bool (decide (1 ≤ p) && decide (p ≤ 10000))) ∧ w' = w := by
  by_cases h1 : 1 ≤ p
  · by_cases h2 : p ≤ 10000
    · have e : (decide (1 ≤ p) && decide (p ≤ 10000)) = true := by rw [decide_eq_true h1, decide_eq_true h2]; rfl
      rw [e]
      go_enter Tryd.func12, Tryd.ntmps12
      go_wp2_with fail
      go_ret
      exact ⟨rfl, rfl⟩
    · have e : (decide (1 ≤ p) && decide (p ≤ 10000)) = false := by rw [decide_eq_true h1, decide_eq_false h2]; rfl
      rw [e]
      go_enter Tryd.func12, Tryd.ntmps12
      go_wp2_with fail
      go_ret
      exact ⟨rfl, rfl⟩
  · have e : (decide (1 ≤ p) && decide (p ≤ 10000)) = false := by rw [decide_eq_false h1]; rfl
    rw [e]
    go_enter Tryd.func12, Tryd.ntmps12
    go_wp2_with fail
    go_ret
    exact ⟨rfl, rfl⟩
theorem good_of {x : T} (h1 : 1 ≤ x.price) (h2 : x.price ≤ 10000) (h3 : 1 ≤ x.qty) (h4 : x.qty ≤ 10000) : badT x = false := by
  unfold badT
  rw [decide_eq_true h1, decide_eq_true h2, decide_eq_true h3, decide_eq_true h4]
  rfl
theorem bad_of {x : T} (h : ¬ (1 ≤ x.price ∧ x.price ≤ 10000 ∧ 1 ≤ x.qty ∧ x.qty ≤ 10000)) : badT x = true := by
  cases hb : badT x
  · exfalso
    apply h
    unfold badT at hb
    simp only [Bool.not_eq_false', Bool.and_eq_true, decide_eq_true_eq] at hb
    exact ⟨hb.1.1.1, hb.1.1.2, hb.1.2, hb.2⟩
  · rfl
theorem any_take_no {zs : List T} {k : Nat} (hk : k < zs.length) (h : (zs.take k).any badT = false) (h2 : badT zs[k]! = false) : (zs.take (k + 1)).any badT = false := by
  rw [take_succ_at hk, List.any_append, h, List.any_cons, h2]
  rfl
theorem any_take_yes {zs : List T} {k : Nat} (hk : k < zs.length) (h2 : badT zs[k]! = true) : zs.any badT = true := by
  rw [List.any_eq_true]
  exact ⟨zs[k]!, by rw [getE _ _ hk]; exact List.getElem_mem hk, h2⟩
set_option maxRecDepth 100000 in
set_option maxHeartbeats 1000000 in
theorem rdeals_any (v : Value) (zs : List T) (w : World) (h : TL w v zs) :
    Calls Tryd.prog 4 #[v] w fun e w' => e = .returned (.int .i64 (bchk zs)) ∧ Below w.heap.size w w' := by
  have HTL := hidT (fun W (hW : Below w.heap.size w W) => h.below hW)
  obtain ⟨q, c, rfl, hn, hc9⟩ := h.form
  obtain ⟨n, hN⟩ : ∃ n, zs.length = n := ⟨_, rfl⟩
  have HN := hidT hN
  by_cases h4 : 400 < zs.length
  · have h4z : (400 : Int) < (zs.length : Int) := by omega
    rw [show bchk zs = 4 from if_pos h4]
    clear HTL h
    generalize zs.length = m at *
    go_enter Tryd.func4, Tryd.ntmps4
    go_wp2_with fail
    go_ret
    exact ⟨rfl, Below.refl _ _⟩
  have h4z : ¬ (400 : Int) < (zs.length : Int) := by omega
  have HB : Hid (bchk zs = if zs.any badT = true then 1 else 0) := if_neg h4
  generalize bchk zs = E at *
  simp only [hN] at h4 h4z hn HTL ⊢
  have H4 := hidT h4
  clear h h4 hN hn hc9
  go_enter Tryd.func4, Tryd.ntmps4
  go_wp2_with fail
  clear h4z
  go_loopg [3, 4] n (fun gg s3 s4 wr => ∃ kk : Nat, kk ≤ n ∧ n - kk ≤ gg ∧ s3 = .int .i64 kk ∧ Aside (Below w.heap.size w wr ∧ (zs.take kk).any badT = false))
  case atStart => exact ⟨0, Nat.zero_le _, by omega, rfl, Below.refl _ _, by simp⟩
  case round =>
    obtain ⟨kk, hkk, hg, rfl, HA⟩ := hrel
    by_cases hlt : kk < n
    · have hltz : (kk : Int) < (n : Int) := by omega
      have hin1 : ¬ ((kk : Int) < 0) := by omega
      have hlz : kk < zs.length := by rw [HN.out]; exact hlt
      obtain ⟨g, off, rfl, hgl, hcc⟩ := (HTL.out wr HA.out.1).at hlz
      have hyes := hidT (fun h2 => any_take_yes (zs := zs) hlz h2)
      have hno := hidT (fun h2 => any_take_no (zs := zs) hlz HA.out.2 h2)
      have HWK := hidT (wrapSucc kk n hlt (by have := H4.out; omega))
      have HKK : Hid (kk < n ∧ n - kk ≤ gk) := ⟨hlt, hg⟩
      have HBW := hidT HA.out.1
      obtain ⟨x, hx⟩ : ∃ x, zs[kk]! = x := ⟨_, rfl⟩
      rw [hx] at hcc hyes hno
      obtain ⟨t1, t2, t3, t4, t5, t6⟩ := x
      have c4 := hcc 4 _ rfl
      have c5 := hcc 5 _ rfl
      clear hcc hx hkk hg hlt HA hgl hlz
      by_cases p1 : 1 ≤ t5
      · by_cases p2 : t5 ≤ 10000
        · by_cases q1 : 1 ≤ t6
          · by_cases q2 : t6 ≤ 10000
            · have hb : badT ⟨t1, t2, t3, t4, t5, t6⟩ = false := good_of p1 p2 q1 q2
              have HNO := hidT (hno.out hb)
              have HP := hidT (rprice_any t5 wr)
              rw [decide_eq_true p1, decide_eq_true p2] at HP
              have q1' : ¬ t6 < 1 := by omega
              have q2' : ¬ 10000 < t6 := by omega
              clear hb hyes hno p1 p2 q1 q2
              go_wp2_with fail
              refine HP.out.mono ?_
              rintro e w1 ⟨rfl, rfl⟩
              go_wp2_with fail
              go_roundg (n - (kk + 1))
              case measure => have := HKK.out; omega
              case rel => exact ⟨kk + 1, HKK.out.1, Nat.le_refl _, by first | exact congrArg (Value.int .i64) HWK.out | go_num | simp, HBW.out, HNO.out⟩
            · have hb : badT ⟨t1, t2, t3, t4, t5, t6⟩ = true := bad_of (by simp only; omega)
              have HE : Hid (E = 1) := by show E = 1; rw [HB.out, if_pos (hyes.out hb)]
              have HP := hidT (rprice_any t5 wr)
              rw [decide_eq_true p1, decide_eq_true p2] at HP
              have q1' : ¬ t6 < 1 := by omega
              have q2' : 10000 < t6 := by omega
              clear hb hyes hno p1 p2 q1 q2
              go_wp2_with fail
              refine HP.out.mono ?_
              rintro e w1 ⟨rfl, rfl⟩
              go_wp2_with fail
              go_ret
              exact ⟨by rw [HE.out]; rfl, HBW.out⟩
          · have hb : badT ⟨t1, t2, t3, t4, t5, t6⟩ = true := bad_of (by simp only; omega)
            have HE : Hid (E = 1) := by show E = 1; rw [HB.out, if_pos (hyes.out hb)]
            have HP := hidT (rprice_any t5 wr)
            rw [decide_eq_true p1, decide_eq_true p2] at HP
            have q1' : t6 < 1 := by omega
            clear hb hyes hno p1 p2 q1
            go_wp2_with fail
            refine HP.out.mono ?_
            rintro e w1 ⟨rfl, rfl⟩
            go_wp2_with fail
            go_ret
            exact ⟨by rw [HE.out]; rfl, HBW.out⟩
        · have hb : badT ⟨t1, t2, t3, t4, t5, t6⟩ = true := bad_of (by simp only; omega)
          have HE : Hid (E = 1) := by show E = 1; rw [HB.out, if_pos (hyes.out hb)]
          have HP := hidT (rprice_any t5 wr)
          rw [decide_eq_true p1, decide_eq_false p2] at HP
          clear hb hyes hno p1 p2
          go_wp2_with fail
          refine HP.out.mono ?_
          rintro e w1 ⟨rfl, rfl⟩
          go_wp2_with fail
          go_ret
          exact ⟨by rw [HE.out]; rfl, HBW.out⟩
      · have hb : badT ⟨t1, t2, t3, t4, t5, t6⟩ = true := bad_of (by simp only; omega)
        have HE : Hid (E = 1) := by show E = 1; rw [HB.out, if_pos (hyes.out hb)]
        have HP := hidT (rprice_any t5 wr)
        rw [decide_eq_false p1] at HP
        clear hb hyes hno p1
        go_wp2_with fail
        refine HP.out.mono ?_
        rintro e w1 ⟨rfl, rfl⟩
        go_wp2_with fail
        go_ret
        exact ⟨by rw [HE.out]; rfl, HBW.out⟩
    · have hke : kk = n := by omega
      subst hke
      have hltz : ¬ (kk : Int) < (kk : Int) := by omega
      have HE : Hid (E = 0) := by
        have h1 := HA.out.2
        rw [List.take_of_length_le (by rw [HN.out]; exact Nat.le_refl _)] at h1
        show E = 0
        rw [HB.out, h1]; rfl
      go_wp2_with fail
      go_ret
      exact ⟨by rw [HE.out]; rfl, HA.out.1⟩
end Go.Proofs.YtkbegagpliiljaaDoor.bar
