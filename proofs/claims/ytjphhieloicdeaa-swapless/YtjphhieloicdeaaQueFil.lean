/- Contracts over this seat's translation: meet.withFirst, meet.trade. Plain facts: fills as they lie there. No walk. -/
import Derived.Test.YtjphhieloicdeaaMeePure
import Derived.Test.YtjphhieloicdeaaSidDL
import Derived.Test.YtjphhieloicdeaaQueTake2
namespace Go.Proofs.Ytjphhieloicdeaa.mee
open Go.RowKit Go.Proofs.Ytjphhieloicdeaa.spn Go.Proofs.Ytjphhieloicdeaa.que Go.Proofs.Ytjphhieloicdeaa.sid
open Go.Proofs.Ytjphhieloicdeaa.ord (O oV mB chk)

/-- Where a side begins without its first level: at its last place it stays where it is. -/
def offT (off cap : Nat) : Nat := if cap = 1 then off else off + 2
/-- Without any rests the first level is none. -/
theorem first_none (g off n cap : Nat) (q : Option Addr) (c : Nat) (w : World) (hc : n + 1 ≤ cap) (hm : cap ≤ 9223372036854775807) :
    Calls Try.prog 72 #[.slice (some ⟨g, off, none⟩) (n + 1) cap, .slice q 0 c] w fun e w' => e = .returned (.slice (some ⟨g, offT off cap, none⟩) n (cap - 1)) ∧ w' = w := by
  have g1 : ((n + 1 : Nat) : Int) ≤ (cap : Int) := by omega
  have g2 : (1 : Int) ≤ ((n + 1 : Nat) : Int) := by omega
  unfold offT
  by_cases h1 : cap = 1
  · have hn : n = 0 := by omega
    subst h1 hn
    go_enter Try.func72, Try.ntmps72
    go_wp2_with fail
    go_ret
    exact ⟨rfl, rfl⟩
  · rw [if_neg h1]
    go_enter Try.func72, Try.ntmps72
    go_wp2_with fail
    go_ret
    exact ⟨rfl, rfl⟩
/-- With other rests the first level has those. -/
theorem first_some (g off n cap : Nat) (q : Option Addr) (m c : Nat) (u : Value) (w : World) (hm : 0 < m) (hu : w.cell? ⟨g, off + 1, none⟩ = some u) (hf : w.frozen? ⟨g, off + 1, none⟩ = false) :
    Calls Try.prog 72 #[.slice (some ⟨g, off, none⟩) (n + 1) cap, .slice q m c] w fun e w' => e = .returned (.slice (some ⟨g, off, none⟩) (n + 1) cap) ∧ w' = w.setCell ⟨g, off + 1, none⟩ (.slice q m c) := by
  have hm0 : ¬ ((m : Int) = 0) := by omega
  go_enter Try.func72, Try.ntmps72
  go_wp2_with fail
  go_ret
  exact ⟨rfl, rfl⟩

/-- A side of the call's own without its first level. -/
theorem deep_tail {w : World} {base g off n cap : Nat} {x : RP} {ps : List RP} (h : Deep w base (.slice (some ⟨g, off, none⟩) n cap) (x :: ps)) : n = ps.length + 1 ∧ n ≤ cap ∧ cap ≤ 9223372036854775807 ∧ Deep w base (.slice (some ⟨g, offT off cap, none⟩) ps.length (cap - 1)) ps := by
  have ho := h.own
  rw [List.append_nil, List.map_cons] at ho
  rcases ho.2 with ⟨e, _⟩ | ⟨g', off', cap', cur, e, hb, hg, hnc, hcm, hcs, htake⟩
  · cases e
  · cases e
    have hL : (x.1 :: ps.map (·.1)).length = ps.length + 1 := by simp
    have hcm2 : cap ≤ 9223372036854775807 := by simpa [maxLen] using hcm
    refine ⟨hL, hnc, hcm2, ?_, fun p hp => h.each p (by simp [hp]), (List.pairwise_cons.1 h.apart).2, fun p hp z hz => h.far p (by simp [hp]) z hz⟩
    rw [List.append_nil]
    show OwnM _ _ _ _ _ _ _
    rw [List.length_map]
    unfold offT
    by_cases h1 : cap = 1
    · rw [if_pos h1]
      have hp : ps = [] := List.eq_nil_of_length_eq_zero (by omega)
      subst hp
      refine ⟨rfl, .inr ⟨g, off, cap - 1, cur, rfl, hb, hg, by simp, by unfold maxLen; omega, by omega, by simp [rlv.flat]⟩⟩
    · rw [if_neg h1]
      rw [hL] at htake
      refine ⟨by rw [rlv.flat_len, List.length_map], .inr ⟨g, off + 2, cap - 1, cur, rfl, hb, hg, by omega, by unfold maxLen; omega, by omega, ?_⟩⟩
      have e2 := congrArg (List.drop 2) htake
      rw [List.drop_take, List.drop_drop, show (ps.length + 1) * 2 - 2 = ps.length * 2 by omega] at e2
      rw [e2]
      rfl
/-- The first level of a side of the call's own. -/
theorem deep_head {w : World} {base : Nat} {v : Value} {x : RP} {ps : List RP} (h : Deep w base v (x :: ps)) : ∃ g off cap, v = .slice (some ⟨g, off, none⟩) (ps.length + 1) cap ∧ w.cell? ⟨g, off, none⟩ = some (.int .i64 x.1.price) ∧ w.cell? ⟨g, off + 1, none⟩ = some (.slice x.1.q x.1.n x.1.c) ∧ (∀ o, w.frozen? ⟨g, o, none⟩ = false) ∧ base ≤ g ∧ g < w.heap.size := by
  have ho := h.own
  rw [List.append_nil, List.map_cons] at ho
  rcases ho.2 with ⟨e, hn⟩ | ⟨g, off, cap, cur, e, hb, hg, hnc, hcm, hcs, htake⟩
  · simp at hn
  · subst e
    obtain ⟨-, c0, c1, hf, hb1, hb2⟩ := ownr_at (a := []) ho
    exact ⟨g, off, cap, by simp, by simpa using c0, by simpa using c1, hf, hb1, hb2⟩

set_option maxRecDepth 100000 in
set_option maxHeartbeats 1000000 in
theorem trade_buy (a b d p q s t : Int) (f1 f2 f3 x : Int) (w : World) :
    Calls Try.prog 71 #[.agg #[.int .i64 a, .int .i64 b, .int .i64 1, .int .i64 d, .int .i64 p, .int .i64 q, .int .i64 s, .int .i64 t], .agg #[.int .i64 f1, .int .i64 f2, .int .i64 f3], .int .i64 x] w fun e w' => e = .returned (.agg #[.int .i64 f1, .int .i64 a, .int .i64 f2, .int .i64 b, .int .i64 x, .int .i64 f3]) ∧ Below w.heap.size w w' := by
  go_enter Try.func71, Try.ntmps71
  go_wp2_with fail
  go_region
  go_wp2_with fail
  go_returns
  exact ⟨rfl, (bal (bal (bal (bal (Below.refl _ _) _) _) _) _).drew⟩
set_option maxRecDepth 100000 in
set_option maxHeartbeats 1000000 in
theorem trade_sell (a b c d p q s t : Int) (f1 f2 f3 x : Int) (w : World) (hc : ¬ c = 1) :
    Calls Try.prog 71 #[.agg #[.int .i64 a, .int .i64 b, .int .i64 c, .int .i64 d, .int .i64 p, .int .i64 q, .int .i64 s, .int .i64 t], .agg #[.int .i64 f1, .int .i64 f2, .int .i64 f3], .int .i64 x] w fun e w' => e = .returned (.agg #[.int .i64 f1, .int .i64 a, .int .i64 b, .int .i64 f2, .int .i64 x, .int .i64 f3]) ∧ Below w.heap.size w w' := by
  have hc1 : (c == 1) = false := by simp [hc]
  go_enter Try.func71, Try.ntmps71
  go_wp2_with fail
  go_returns
  exact ⟨rfl, bal (bal (bal (bal (Below.refl _ _) _) _) _) _⟩
end Go.Proofs.Ytjphhieloicdeaa.mee
namespace Go.Proofs.Ytjphhieloicdeaa.que
open Go.RowKit Go.Proofs.Ytjphhieloicdeaa.spn

/-- Fills lie in a block from an offset on. -/
def LiesF (w : World) (b o : Nat) (fs : List F) : Prop := ∀ j, j < fs.length → ∀ i v, (fV fs[j]!)[i]? = some v → w.cell? ⟨b, o + j * 3 + i, none⟩ = some v
def SF (w : World) (v : Value) (fs : List F) : Prop :=
  (v = .slice none 0 0 ∧ fs = []) ∨ ∃ b o c, v = .slice (some ⟨b, o, none⟩) fs.length c ∧ fs.length ≤ 9223372036854775807 ∧ b < w.heap.size ∧ LiesF w b o fs
theorem LiesF.below {w w' : World} {b o : Nat} {fs : List F} (h : LiesF w b o fs) (hb : b < w.heap.size) (hB : Below w.heap.size w w') : LiesF w' b o fs :=
  fun j hj i v hv => (hB.cell (p := ⟨b, o + j * 3 + i, none⟩) hb).trans (h j hj i v hv)
theorem SF.below {w w' : World} {v : Value} {fs : List F} (h : SF w v fs) (hB : Below w.heap.size w w') : SF w' v fs := by
  rcases h with h | ⟨b, o, c, h1, h2, h3, h4⟩
  · exact .inl h
  · exact .inr ⟨b, o, c, h1, h2, Nat.lt_of_lt_of_le h3 hB.size, h4.below h3 hB⟩
theorem flatF_get (fs : List F) : ∀ j, j < fs.length → ∀ i, i < 3 → (flatF fs)[j * 3 + i]? = (fV fs[j]!)[i]? := by
  induction fs with
  | nil => intro j hj; simp at hj
  | cons r t ih =>
    intro j hj i hi
    have e : flatF (r :: t) = fV r ++ flatF t := rfl
    rw [e]
    cases j with
    | zero => rw [Nat.zero_mul, Nat.zero_add, List.getElem?_append_left (by show i < 3; exact hi)]; rfl
    | succ j =>
      rw [List.getElem?_append_right (by show 3 ≤ _; omega)]
      have : (j + 1) * 3 + i - (fV r).length = j * 3 + i := by show (j + 1) * 3 + i - 3 = _; omega
      rw [this, ih j (by simpa using hj) i hi]
      rfl
theorem OwnF.sf {w : World} {base : Nat} {v : Value} {fs : List F} (h : OwnF w base v fs) : SF w v fs := by
  rcases h.2 with ⟨rfl, hn⟩ | ⟨g, off, cap, cur, rfl, hb, hg, hnc, hcm, hcs, htake⟩
  · exact .inl ⟨rfl, List.eq_nil_of_length_eq_zero hn⟩
  · have hcm2 : cap ≤ 9223372036854775807 := by simpa [maxLen] using hcm
    refine .inr ⟨g, off, cap, rfl, by omega, (Array.getElem?_eq_some_iff.1 hg).1, ?_⟩
    intro j hj i u hu
    have hi : i < 3 := (List.getElem?_eq_some_iff.1 hu).1
    rw [← flatF_get fs j hj i hi] at hu
    rw [Nat.add_assoc, cell_of_row w g (off + (j * 3 + i)) cur _ (0, 0) hg]
    rw [← htake, List.getElem?_take] at hu
    split at hu
    · rw [List.getElem?_drop] at hu; simpa using hu
    · cases hu
theorem liesF_at {w : World} {b o k : Nat} {fs : List F} (h : LiesF w b o fs) (hk : k < fs.length) {r1 r2 r3 : Int} (he : fs[k]! = ⟨r1, r2, r3⟩) :
    w.cell? ⟨b, o + k * 3, none⟩ = some (.int .i64 r1) ∧ w.cell? ⟨b, o + k * 3 + 1, none⟩ = some (.int .i64 r2) ∧ w.cell? ⟨b, o + k * 3 + 2, none⟩ = some (.int .i64 r3) := by
  have hh := h k hk
  rw [he] at hh
  exact ⟨hh 0 _ rfl, hh 1 _ rfl, hh 2 _ rfl⟩
end Go.Proofs.Ytjphhieloicdeaa.que
