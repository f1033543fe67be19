/- Contracts over this seat's translation: meet.withFirst, meet.trade. -/
import Derived.Test.YtegbicmfgblphaaMeePure
import Derived.Test.YtegbicmfgblphaaSidDL
import Derived.Test.YtegbicmfgblphaaQueTake2
namespace Go.Proofs.Ytegbicmfgblphaa.mee
open Go.RowKit Go.Proofs.Ytegbicmfgblphaa.spn Go.Proofs.Ytegbicmfgblphaa.que Go.Proofs.Ytegbicmfgblphaa.sid
open Go.Proofs.Ytegbicmfgblphaa.ord (O oV mB chk)

/-- Where a side begins without its first level: at its last place it stays where it is. -/
def offT (off cap : Nat) : Nat := if cap = 1 then off else off + 2
/-- Without any rests the first level is none. -/
theorem first_none (g off n cap : Nat) (q : Option Addr) (c : Nat) (w : World) (hc : n + 1 ≤ cap) (hm : cap ≤ 9223372036854775807) :
    Calls Try.prog 61 #[.slice (some ⟨g, off, none⟩) (n + 1) cap, .slice q 0 c] w fun e w' => e = .returned (.slice (some ⟨g, offT off cap, none⟩) n (cap - 1)) ∧ w' = w := by
  have g1 : ((n + 1 : Nat) : Int) ≤ (cap : Int) := by omega
  have g2 : (1 : Int) ≤ ((n + 1 : Nat) : Int) := by omega
  unfold offT
  by_cases h1 : cap = 1
  · have hn : n = 0 := by omega
    subst h1 hn
    go_enter Try.func61, Try.ntmps61
    go_wp2_with fail
    go_ret
    exact ⟨rfl, rfl⟩
  · rw [if_neg h1]
    go_enter Try.func61, Try.ntmps61
    go_wp2_with fail
    go_ret
    exact ⟨rfl, rfl⟩
/-- With other rests the first level has those. -/
theorem first_some (g off n cap : Nat) (q : Option Addr) (m c : Nat) (u : Value) (w : World) (hm : 0 < m) (hu : w.cell? ⟨g, off + 1, none⟩ = some u) (hf : w.frozen? ⟨g, off + 1, none⟩ = false) :
    Calls Try.prog 61 #[.slice (some ⟨g, off, none⟩) (n + 1) cap, .slice q m c] w fun e w' => e = .returned (.slice (some ⟨g, off, none⟩) (n + 1) cap) ∧ w' = w.setCell ⟨g, off + 1, none⟩ (.slice q m c) := by
  have hm0 : ¬ ((m : Int) = 0) := by omega
  go_enter Try.func61, Try.ntmps61
  go_wp2_with fail
  go_ret
  exact ⟨rfl, rfl⟩

/-- A side of the call's own without its first level. -/
theorem deep_tail {w : World} {base g off n cap : Nat} {x : RP} {ps : List RP} (h : Deep w base (.slice (some ⟨g, off, none⟩) n cap) (x :: ps)) : n = ps.length + 1 ∧ n ≤ cap ∧ cap ≤ 9223372036854775807 ∧ Deep w base (.slice (some ⟨g, offT off cap, none⟩) ps.length (cap - 1)) ps := by
  have ho := h.own
  rw [List.append_nil, List.map_cons] at ho
  rcases ho.2 with ⟨e, _⟩ | ⟨g', off', cap', cur, e, hb, hg, hnc, hcm, hcs, htake⟩
  · cases e
  · cases e
    have hL : (x.1 :: ps.map (·.1)).length = ps.length + 1 := by simp
    have hcm2 : cap ≤ 9223372036854775807 := by simpa [maxLen] using hcm
    refine ⟨hL, hnc, hcm2, ?_, fun p hp => h.each p (by simp [hp]), (List.pairwise_cons.1 h.apart).2, fun p hp z hz => h.far p (by simp [hp]) z hz⟩
    rw [List.append_nil]
    show OwnM _ _ _ _ _ _ _
    rw [List.length_map]
    unfold offT
    by_cases h1 : cap = 1
    · rw [if_pos h1]
      have hp : ps = [] := List.eq_nil_of_length_eq_zero (by omega)
      subst hp
      refine ⟨rfl, .inr ⟨g, off, cap - 1, cur, rfl, hb, hg, by simp, by unfold maxLen; omega, by omega, by simp [rlv.flat]⟩⟩
    · rw [if_neg h1]
      rw [hL] at htake
      refine ⟨by rw [rlv.flat_len, List.length_map], .inr ⟨g, off + 2, cap - 1, cur, rfl, hb, hg, by omega, by unfold maxLen; omega, by omega, ?_⟩⟩
      have e2 := congrArg (List.drop 2) htake
      rw [List.drop_take, List.drop_drop, show (ps.length + 1) * 2 - 2 = ps.length * 2 by omega] at e2
      rw [e2]
      rfl
/-- The first level of a side of the call's own. -/
theorem deep_head {w : World} {base : Nat} {v : Value} {x : RP} {ps : List RP} (h : Deep w base v (x :: ps)) : ∃ g off cap, v = .slice (some ⟨g, off, none⟩) (ps.length + 1) cap ∧ w.cell? ⟨g, off, none⟩ = some (.int .i64 x.1.price) ∧ w.cell? ⟨g, off + 1, none⟩ = some (.slice x.1.q x.1.n x.1.c) ∧ (∀ o, w.frozen? ⟨g, o, none⟩ = false) ∧ base ≤ g ∧ g < w.heap.size := by
  have ho := h.own
  rw [List.append_nil, List.map_cons] at ho
  rcases ho.2 with ⟨e, hn⟩ | ⟨g, off, cap, cur, e, hb, hg, hnc, hcm, hcs, htake⟩
  · simp at hn
  · subst e
    obtain ⟨-, c0, c1, hf, hb1, hb2⟩ := ownr_at (a := []) ho
    exact ⟨g, off, cap, by simp, by simpa using c0, by simpa using c1, hf, hb1, hb2⟩

/-- A trade as it lies there. -/
def tV (t : T) : List Value := [.int .i64 t.maker, .int .i64 t.taker, .int .i64 t.frm, .int .i64 t.into, .int .i64 t.price, .int .i64 t.qty]
set_option maxRecDepth 100000 in
set_option maxHeartbeats 1000000 in
theorem trade_buy (a b d p q s t : Int) (f1 f2 f3 x : Int) (w : World) :
    Calls Try.prog 60 #[.agg #[.int .i64 a, .int .i64 b, .int .i64 1, .int .i64 d, .int .i64 p, .int .i64 q, .int .i64 s, .int .i64 t], .agg #[.int .i64 f1, .int .i64 f2, .int .i64 f3], .int .i64 x] w fun e w' => e = .returned (.agg #[.int .i64 f1, .int .i64 a, .int .i64 f2, .int .i64 b, .int .i64 x, .int .i64 f3]) ∧ Below w.heap.size w w' := by
  go_enter Try.func60, Try.ntmps60
  go_wp2_with fail
  go_region
  go_wp2_with fail
  go_returns
  exact ⟨rfl, (bal (bal (bal (bal (Below.refl _ _) _) _) _) _).drew⟩
set_option maxRecDepth 100000 in
set_option maxHeartbeats 1000000 in
theorem trade_sell (a b c d p q s t : Int) (f1 f2 f3 x : Int) (w : World) (hc : ¬ c = 1) :
    Calls Try.prog 60 #[.agg #[.int .i64 a, .int .i64 b, .int .i64 c, .int .i64 d, .int .i64 p, .int .i64 q, .int .i64 s, .int .i64 t], .agg #[.int .i64 f1, .int .i64 f2, .int .i64 f3], .int .i64 x] w fun e w' => e = .returned (.agg #[.int .i64 f1, .int .i64 a, .int .i64 b, .int .i64 f2, .int .i64 x, .int .i64 f3]) ∧ Below w.heap.size w w' := by
  have hc1 : (c == 1) = false := by simp [hc]
  go_enter Try.func60, Try.ntmps60
  go_wp2_with fail
  go_returns
  exact ⟨rfl, bal (bal (bal (bal (Below.refl _ _) _) _) _) _⟩
end Go.Proofs.Ytegbicmfgblphaa.mee
