/- Contracts over this seat's translation: package margin's Left. -/
import Derived.Test.YtdeahageabacbaaMrgFor
import Derived.Test.YtdeahageabacbaaQueRest
namespace Go.Proofs.Ytdeahageabacbaa.mrg
open Go.RowKit Go.Proofs.Ytdeahageabacbaa.mee
open Go.Proofs.Ytdeahageabacbaa.spn (keeps bcell spanB spanV of_any qty_any price_any side_any scheck1 scheck2 rangeE)
open Go.Proofs.Ytdeahageabacbaa.ord (O oV chk errV errV_zero errV_of check_any mB mE meets_any bal prB)
open Go.Proofs.Ytdeahageabacbaa.que (R rchk rest_any)

def sidB (s : Int) : Bool := decide (1 ≤ s) && decide (s ≤ 2)
/-- What Left tells. -/
def leftE (r : R) (s p : Int) : Int := if rchk r = 0 then (if sidB s && prB p then 0 else 1) else rchk r
def leftC (r : R) (s p : Int) : Int := if leftE r s p = 0 then putC s p (r.qty + r.hid) else 0
def leftS (r : R) (s p : Int) : Int := if leftE r s p = 0 then putS s (r.qty + r.hid) else 0
theorem two_any (s p : Int) : [(s, 1, 2), (p, 1, 10000)].any spanB = !(sidB s && prB p) := by
  rw [Bool.eq_iff_iff]
  simp [spanB, sidB, prB]
theorem rest_small {r : R} (h : rchk r = 0) : 1 ≤ r.qty ∧ r.qty ≤ 10000 ∧ 0 ≤ r.hid ∧ r.hid ≤ 10000 := by
  unfold rchk at h
  by_cases h1 : que.rangeB r = true
  · simp [que.rangeB, que.inB] at h1
    omega
  · rw [if_neg h1] at h
    omega

set_option maxRecDepth 100000 in
set_option maxHeartbeats 2000000 in
theorem left_any (a b c d e s p : Int) (w : World) :
    Calls Try.prog 9 #[.agg #[.int .i64 a, .int .i64 b, .int .i64 c, .int .i64 d, .int .i64 e], .int .i64 s, .int .i64 p] w fun x w' => x = .returned (.tuple #[.int .i64 (leftC ⟨a, b, c, d, e⟩ s p), .int .i64 (leftS ⟨a, b, c, d, e⟩ s p), errV (leftE ⟨a, b, c, d, e⟩ s p)]) ∧ Below w.heap.size w w' := by
  have HCK : Hid (∀ W, Calls Try.prog 23 #[.agg #[.int .i64 a, .int .i64 b, .int .i64 c, .int .i64 d, .int .i64 e]] W fun x w' => x = .returned (errV (rchk ⟨a, b, c, d, e⟩)) ∧ Below W.heap.size W w') := fun W => rest_any a b c d e W
  by_cases h0 : rchk ⟨a, b, c, d, e⟩ = 0
  rotate_left
  · have e0 : leftE ⟨a, b, c, d, e⟩ s p = rchk ⟨a, b, c, d, e⟩ := if_neg h0
    have e1 : leftC ⟨a, b, c, d, e⟩ s p = 0 := if_neg (by rw [e0]; exact h0)
    have e2 : leftS ⟨a, b, c, d, e⟩ s p = 0 := if_neg (by rw [e0]; exact h0)
    rw [e1, e2, e0, errV_of h0]
    rw [errV_of h0] at HCK
    clear e1 e2 e0
    generalize rchk ⟨a, b, c, d, e⟩ = k at *
    go_enter Try.func9, Try.ntmps9
    go_wp2_with fail
    refine (HCK.out _).mono ?_
    rintro e w1 ⟨rfl, hb⟩
    have hW : Below w.heap.size w w1 := ((Below.refl _ _).alloc (Nat.le_refl _) _).trans (hb.mono (by simp))
    go_wp2_with fail
    go_ret3
    exact ⟨rfl, hW⟩
  have hs := rest_small h0
  have HSM : Hid (wrap64 (c + d) = c + d) := by
    have h1 : 1 ≤ c ∧ c ≤ 10000 ∧ 0 ≤ d ∧ d ≤ 10000 := hs
    show _ = _
    unfold wrap64
    omega
  have HR := hidM (two_any s p)
  have e0 : leftE ⟨a, b, c, d, e⟩ s p = (if sidB s && prB p then 0 else 1) := if_pos h0
  rw [h0, errV_zero] at HCK
  unfold leftC leftS
  rw [e0]
  clear e0 h0 hs
  generalize (sidB s && prB p) = r at *
  cases r
  · show Calls _ _ _ _ fun x w' => x = .returned (.tuple #[.int .i64 0, .int .i64 0, .iface 63 (.int .i64 1)]) ∧ Below w.heap.size w w'
    go_enter Try.func9, Try.ntmps9
    go_wp2_with fail
    refine (HCK.out _).mono ?_
    rintro x w1 ⟨rfl, hb⟩
    have hW : Below w.heap.size w w1 := ((Below.refl _ _).alloc (Nat.le_refl _) _).trans (hb.mono (by simp))
    clear hb
    go_wp2_with fail
    refine (side_any s _).mono ?_
    rintro x w2 ⟨rfl, hb2⟩
    have hW2 := hW.trans (hb2.mono hW.size)
    clear hb2
    go_wp2_with fail
    refine (price_any p _).mono ?_
    rintro x w3 ⟨rfl, hb3⟩
    have hW3 := hW2.trans (hb3.mono hW2.size)
    clear hb3
    go_wp2_with fail
    refine (scheck2 true _ _ _ _ _ _ _ _ rfl HR.out).mono ?_
    rintro x w4 ⟨rfl, hb4⟩
    have hW4 := hW3.trans (hb4.mono hW3.size)
    clear hb4
    simp only [show spn.errV (rangeE true) = .iface 63 (.int .i64 1) from rfl]
    go_wp2_with fail
    go_ret3
    exact ⟨rfl, hW4⟩
  · show Calls _ _ _ _ fun x w' => x = .returned (.tuple #[.int .i64 (putC s p (c + d)), .int .i64 (putS s (c + d)), .nilIface]) ∧ Below w.heap.size w w'
    go_enter Try.func9, Try.ntmps9
    go_wp2_with fail
    refine (HCK.out _).mono ?_
    rintro x w1 ⟨rfl, hb⟩
    have hW : Below w.heap.size w w1 := ((Below.refl _ _).alloc (Nat.le_refl _) _).trans (hb.mono (by simp))
    have d2 : w1.cell? ⟨w.heap.size, 2, none⟩ = some (.int .i64 c) := keeps hb (by simp)
    have d3 : w1.cell? ⟨w.heap.size, 3, none⟩ = some (.int .i64 d) := keeps hb (by simp)
    clear hb
    go_wp2_with fail
    refine (side_any s _).mono ?_
    rintro x w2 ⟨rfl, hb2⟩
    have hW2 := hW.trans (hb2.mono hW.size)
    have c2 := keeps hb2 d2
    have c3 := keeps hb2 d3
    clear hb2 d2 d3
    go_wp2_with fail
    refine (price_any p _).mono ?_
    rintro x w3 ⟨rfl, hb3⟩
    have hW3 := hW2.trans (hb3.mono hW2.size)
    have d2 := keeps hb3 c2
    have d3 := keeps hb3 c3
    clear hb3 c2 c3
    go_wp2_with fail
    refine (scheck2 false _ _ _ _ _ _ _ _ rfl HR.out).mono ?_
    rintro x w4 ⟨rfl, hb4⟩
    have hW4 := hW3.trans (hb4.mono hW3.size)
    have c2 := keeps hb4 d2
    have c3 := keeps hb4 d3
    clear hb4 d2 d3
    simp only [show spn.errV (rangeE false) = .nilIface from rfl]
    have x1 := HSM.out
    go_wp2_with fail
    refine (putBy_any _ _ _ _).mono ?_
    rintro x w5 ⟨rfl, rfl⟩
    go_wp2_with fail
    go_ret3
    exact ⟨rfl, hW4⟩
end Go.Proofs.Ytdeahageabacbaa.mrg
