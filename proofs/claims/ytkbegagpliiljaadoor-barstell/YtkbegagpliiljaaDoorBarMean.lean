/- Contracts over this seat's translation: package bars' Mean, Range. -/
import Derived.Test.YtkbegagpliiljaaDoorBarChk
import Derived.Test.YtkbegagpliiljaaDoorBarOf2
import Derived.BigQuiet
namespace Go.Proofs.YtkbegagpliiljaaDoor.bar
open Go.RowKit Go.Proofs.YtkbegagpliiljaaDoor.mee
open Go.Proofs.YtkbegagpliiljaaDoor.spn (keeps rangeE errV errV_zero errV_of)

/-- What trades were worth, and how much it was. -/
def wor : List T → Int
  | [] => 0
  | t :: r => t.price * t.qty + wor r
def qty : List T → Int
  | [] => 0
  | t :: r => t.qty + qty r
theorem wor_append (a b : List T) : wor (a ++ b) = wor a + wor b := by
  induction a with
  | nil => simp [wor]
  | cons t r ih => rw [List.cons_append, wor, wor, ih]; omega
theorem qty_append (a b : List T) : qty (a ++ b) = qty a + qty b := by
  induction a with
  | nil => simp [qty]
  | cons t r ih => rw [List.cons_append, qty, qty, ih]; omega
theorem wor_take {ts : List T} {k : Nat} (h : k < ts.length) : wor (ts.take (k + 1)) = wor (ts.take k) + (ts[k]!).price * (ts[k]!).qty := by
  rw [take_succ_at h, wor_append]
  simp [wor]
theorem qty_take {ts : List T} {k : Nat} (h : k < ts.length) : qty (ts.take (k + 1)) = qty (ts.take k) + (ts[k]!).qty := by
  rw [take_succ_at h, qty_append]
  simp [qty]
theorem good_mem {ts : List T} (h : ts.any badT = false) {t : T} (ht : t ∈ ts) : 1 ≤ t.price ∧ t.price ≤ 10000 ∧ 1 ≤ t.qty ∧ t.qty ≤ 10000 := by
  rw [List.any_eq_false] at h
  have := h t ht
  simp [badT] at this
  omega
theorem good_at {ts : List T} (h : ts.any badT = false) {k : Nat} (hk : k < ts.length) : 1 ≤ (ts[k]!).price ∧ (ts[k]!).price ≤ 10000 ∧ 1 ≤ (ts[k]!).qty ∧ (ts[k]!).qty ≤ 10000 :=
  good_mem h (by rw [getE _ _ hk]; exact List.getElem_mem hk)
theorem mul_bound {p q : Int} (h : 1 ≤ p ∧ p ≤ 10000 ∧ 1 ≤ q ∧ q ≤ 10000) : 1 ≤ p * q ∧ p * q ≤ 100000000 := by
  obtain ⟨h1, h2, h3, h4⟩ := h
  constructor
  · have := Int.mul_le_mul h1 h3 (by omega) (by omega)
    simpa using this
  · have := Int.mul_le_mul h2 h4 (by omega) (by omega)
    simpa using this
theorem sum_bound : ∀ (ts : List T), ts.any badT = false → ((ts.length : Int) ≤ qty ts ∧ qty ts ≤ 10000 * ts.length) ∧ 0 ≤ wor ts ∧ wor ts ≤ 100000000 * ts.length
  | [], _ => by simp [qty, wor]
  | t :: r, h => by
    have hr : r.any badT = false := by
      rw [List.any_cons] at h
      cases hq : badT t <;> simp_all
    have h1 := sum_bound r hr
    have h2 := good_mem h (List.mem_cons_self : t ∈ t :: r)
    have h3 := mul_bound h2
    rw [qty, wor, List.length_cons]
    generalize t.price * t.qty = p at *
    omega
theorem any_take {ts : List T} (h : ts.any badT = false) (k : Nat) : (ts.take k).any badT = false := by
  rw [List.any_eq_false] at h ⊢
  exact fun t ht => h t (List.mem_of_mem_take ht)
theorem bchk_zero {zs : List T} (h : bchk zs = 0) : zs.length ≤ 400 ∧ zs.any badT = false := by
  unfold bchk at h
  split at h
  · cases h
  · refine ⟨by omega, ?_⟩
    cases hq : zs.any badT
    · rfl
    · rw [hq] at h; cases h
theorem bsome_zero {zs : List T} (h : bsome zs = 0) : bchk zs = 0 ∧ 0 < zs.length := by
  unfold bsome at h
  split at h
  · refine ⟨by assumption, ?_⟩
    split at h
    · cases h
    · omega
  · contradiction
/-- What Mean answers. -/
def meanE (zs : List T) : Int := if bsome zs = 0 then (wor zs).tdiv (qty zs) else 0

set_option maxRecDepth 100000 in
set_option maxHeartbeats 1000000 in
theorem mean_any (v : Value) (zs : List T) (w : World) (h : TL w v zs) :
    Calls Tryd.prog 8 #[v] w fun e w' => e = .returned (.tuple #[.int .i64 (meanE zs), errV (bsome zs)]) ∧ Below w.heap.size w w' := by
  have HCK := hidT (checkSome_any v zs w h)
  by_cases hz : bsome zs = 0
  rotate_left
  · have e1 : meanE zs = 0 := if_neg hz
    rw [e1, errV_of hz]
    rw [errV_of hz] at HCK
    clear e1
    generalize bsome zs = k at *
    go_enter Tryd.func8, Tryd.ntmps8
    go_wp2_with fail
    refine HCK.out.mono ?_
    rintro e w1 ⟨rfl, hb⟩
    go_wp2_with fail
    go_ret2
    exact ⟨rfl, hb⟩
  have HTL := hidT (fun W (hW : Below w.heap.size w W) => h.below hW)
  obtain ⟨hb0, hl0⟩ := bsome_zero hz
  obtain ⟨h4, hg⟩ := bchk_zero hb0
  have HQB : Hid (∀ k, k ≤ zs.length → 0 ≤ qty (zs.take k) ∧ qty (zs.take k) ≤ 4000000 ∧ 0 ≤ wor (zs.take k) ∧ wor (zs.take k) ≤ 40000000000) := fun k hk => by
    have h1 := sum_bound (zs.take k) (any_take hg k)
    rw [List.length_take] at h1
    omega
  have HGA : Hid (∀ k, k < zs.length → _) := fun k hk => good_at hg hk
  have HQP : Hid (1 ≤ qty zs) := by have := sum_bound zs hg; show 1 ≤ _; omega
  rw [show meanE zs = (wor zs).tdiv (qty zs) from if_pos hz, hz, errV_zero]
  rw [hz, errV_zero] at HCK
  obtain ⟨q, c, rfl, hnn, hc9⟩ := h.form
  obtain ⟨n, hN⟩ : ∃ n, zs.length = n := ⟨_, rfl⟩
  have HN := hidT hN
  simp only [hN] at h4 hl0 ⊢
  simp only [hN] at HCK HTL
  have H4 : Hid (n ≤ 400 ∧ 0 < n) := ⟨h4, hl0⟩
  obtain ⟨RW, hRW⟩ : ∃ x, x = wor zs := ⟨_, rfl⟩
  obtain ⟨RQ, hRQ⟩ : ∃ x, x = qty zs := ⟨_, rfl⟩
  simp only [← hRW, ← hRQ]
  have HRW : Hid (RW = wor zs ∧ RQ = qty zs) := ⟨hRW, hRQ⟩
  clear h hz hb0 hg h4 hl0 hnn hN hRW hRQ
  go_enter Tryd.func8, Tryd.ntmps8
  go_wp2_with fail
  refine HCK.out.mono ?_
  rintro e w1 ⟨rfl, hb⟩
  have HB1 := hidT hb
  clear hb HCK
  go_wp2_with fail
  go_loopg [5, 6, 8, 16] n (fun gg s5 s6 s8 s16 wr => ∃ (kk : Nat), kk ≤ n ∧ n - kk ≤ gg ∧ s5 = .int .i64 (wor (zs.take kk)) ∧ s6 = .int .i64 (qty (zs.take kk)) ∧ s16 = .int .i64 kk ∧ Aside (Below w.heap.size w wr))
  case atStart => exact ⟨0, Nat.zero_le _, by omega, rfl, rfl, rfl, HB1.out⟩
  case round =>
    obtain ⟨kk, hkk, hgk, rfl, rfl, rfl, HA⟩ := hrel
    by_cases hlt : kk < n
    · have hltz : (kk : Int) < (n : Int) := by omega
      have hin1 : ¬ ((kk : Int) < 0) := by omega
      have hlz : kk < zs.length := by rw [HN.out]; exact hlt
      obtain ⟨g, off, rfl, hgl, hcc⟩ := (HTL.out wr HA.out).at hlz
      obtain ⟨x, hx⟩ : ∃ x, zs[kk]! = x := ⟨_, rfl⟩
      have hs1 := HQB.out kk (by omega)
      have hs2 := HGA.out kk hlz
      have hs3 := wor_take hlz
      have hs4 := qty_take hlz
      rw [hx] at hcc hs2 hs3 hs4
      have hs5 := mul_bound hs2
      obtain ⟨t1, t2, t3, t4, t5, t6⟩ := x
      simp only at hs2 hs3 hs4 hs5
      have c0 := hcc 0 _ rfl
      have c1 := hcc 1 _ rfl
      have c2 := hcc 2 _ rfl
      have c3 := hcc 3 _ rfl
      have c4 := hcc 4 _ rfl
      have c5 := hcc 5 _ rfl
      simp only [Nat.add_zero] at c0 c1 c2 c3 c4 c5
      have HWK := hidT (wrapSucc kk n hlt (by have := H4.out; omega))
      have HKK : Hid (kk < n ∧ n - kk ≤ gk) := ⟨hlt, hgk⟩
      have HS3 : Hid (_ ∧ _) := ⟨hs3, hs4⟩
      generalize wor (zs.take kk) = SW at *
      generalize qty (zs.take kk) = SQ at *
      have HW1 : Hid (wrap64 (t5 * t6) = t5 * t6) := by
        show _ = _
        generalize t5 * t6 = p at *
        unfold wrap64
        omega
      have HW2 : Hid (wrap64 (SW + t5 * t6) = SW + t5 * t6) := by
        show _ = _
        generalize t5 * t6 = p at *
        unfold wrap64
        omega
      have HW3 : Hid (wrap64 (SQ + t6) = SQ + t6) := by show _ = _; unfold wrap64; omega
      have HBA := hidT (HA.out.alloc HA.out.size (.cells #[.int .i64 t1, .int .i64 t2, .int .i64 t3, .int .i64 t4, .int .i64 t5, .int .i64 t6] 34))
      clear hcc hx hkk hgk hlt hs1 hs2 hs3 hs4 hs5 HA
      go_wp2_with fail
      go_roundg (n - (kk + 1))
      case measure => have := HKK.out; omega
      case rel =>
        refine ⟨kk + 1, HKK.out.1, Nat.le_refl _, ?_, ?_, by first | exact congrArg (Value.int .i64) HWK.out | go_num | simp, HBA.out⟩
        · rw [HS3.out.1, HW1.out, HW2.out]
        · rw [HS3.out.2, HW3.out]
    · obtain rfl : kk = n := by omega
      have hltz : ¬ (kk : Int) < (kk : Int) := by omega
      have hA := hidT HA.out
      have hzz : zs.take kk = zs := List.take_of_length_le (by rw [HN.out]; exact Nat.le_refl _)
      simp only [hzz, ← HRW.out.1, ← HRW.out.2]
      have hqz : ¬ RQ = 0 := by have := HQP.out; rw [← HRW.out.2] at this; omega
      have HTD : Hid (wrap64 (RW.tdiv RQ) = RW.tdiv RQ) := by
        have h1 := HQB.out kk (by rw [HN.out]; exact Nat.le_refl _)
        rw [hzz, ← HRW.out.1] at h1
        have h2 := HQP.out
        rw [← HRW.out.2] at h2
        show _ = _
        rw [Int.tdiv_eq_ediv_of_nonneg h1.2.2.1]
        have h3 := Int.ediv_nonneg h1.2.2.1 (show 0 ≤ RQ by omega)
        have h4 := Int.ediv_le_self RQ h1.2.2.1
        generalize RW / RQ = d at *
        unfold wrap64
        omega
      clear HA hzz
      go_wp2_with fail
      go_ret2
      exact ⟨congrArg (fun x => Ending.returned (.tuple #[.int .i64 x, .nilIface])) HTD.out, hA.out⟩
/-- What Range answers. -/
def lowE (zs : List T) : Int := if bsome zs = 0 then (barOf zs).l else 0
def highE (zs : List T) : Int := if bsome zs = 0 then (barOf zs).h else 0
set_option maxRecDepth 100000 in
set_option maxHeartbeats 1000000 in
theorem range_any (v : Value) (zs : List T) (w : World) (h : TL w v zs) :
    Calls Tryd.prog 9 #[v] w fun e w' => e = .returned (.tuple #[.int .i64 (lowE zs), .int .i64 (highE zs), errV (bsome zs)]) ∧ Below w.heap.size w w' := by
  have HCK := hidT (checkSome_any v zs w h)
  by_cases hz : bsome zs = 0
  rotate_left
  · have e1 : lowE zs = 0 := if_neg hz
    have e2 : highE zs = 0 := if_neg hz
    rw [e1, e2, errV_of hz]
    rw [errV_of hz] at HCK
    clear e1 e2
    generalize bsome zs = k at *
    go_enter Tryd.func9, Tryd.ntmps9
    go_wp2_with fail
    refine HCK.out.mono ?_
    rintro e w1 ⟨rfl, hb⟩
    go_wp2_with fail
    go_ret3
    exact ⟨rfl, hb⟩
  have HBO := hidT (fun W (hW : Below w.heap.size w W) => barOf_any v zs W (h.below hW) (bsome_zero hz).2)
  rw [show lowE zs = (barOf zs).l from if_pos hz, show highE zs = (barOf zs).h from if_pos hz, hz, errV_zero]
  rw [hz, errV_zero] at HCK
  obtain ⟨q, c, rfl, hnn, hc9⟩ := h.form
  clear h hz
  obtain ⟨R, hR⟩ : ∃ R, R = barOf zs := ⟨_, rfl⟩
  simp only [← hR] at HBO ⊢
  obtain ⟨o, hi, lo, cl, qt⟩ := R
  have HBO2 : Hid (∀ W, Below w.heap.size w W → Calls Tryd.prog 17 #[.slice q zs.length c] W fun e w' => e = .returned (.agg #[.int .i64 o, .int .i64 hi, .int .i64 lo, .int .i64 cl, .int .i64 qt]) ∧ Below W.heap.size W w') := HBO.out
  clear HBO hR
  go_enter Tryd.func9, Tryd.ntmps9
  go_wp2_with fail
  refine HCK.out.mono ?_
  rintro e w1 ⟨rfl, hb⟩
  have HC2 := hidT (HBO2.out w1 hb)
  have HB1 := hidT hb
  clear hb HCK HBO2
  go_wp2_with fail
  refine HC2.out.mono ?_
  rintro e w2 ⟨rfl, hb2⟩
  have HB2 := hidT (HB1.out.trans (hb2.mono HB1.out.size))
  clear hb2 HC2 HB1
  go_upto_region 5 with fail
  have HV : Hid (Below w.heap.size w (w2.alloc (.cells #[.int .i64 o, .int .i64 hi, .int .i64 lo, .int .i64 cl, .int .i64 qt] 26)) ∧ (w2.alloc (.cells #[.int .i64 o, .int .i64 hi, .int .i64 lo, .int .i64 cl, .int .i64 qt] 26)).heap[w2.heap.size]? = some (.cells #[.int .i64 o, .int .i64 hi, .int .i64 lo, .int .i64 cl, .int .i64 qt] 26 (0, 0))) := ⟨HB2.out.alloc HB2.out.size _, heap_alloc_new w2 _⟩
  generalize w2.alloc (.cells #[.int .i64 o, .int .i64 hi, .int .i64 lo, .int .i64 cl, .int .i64 qt] 26) = V at HV ⊢
  obtain ⟨r0, r1, r2, r3, r4⟩ := row5 HV.out.2
  go_quiet (fail)
  go_wp2_with fail
  go_ret3
  exact ⟨rfl, HV.out.1.trans ⟨rfl, rfl, rfl, Nat.le_refl _, fun _ _ => rfl⟩⟩
end Go.Proofs.YtkbegagpliiljaaDoor.bar
