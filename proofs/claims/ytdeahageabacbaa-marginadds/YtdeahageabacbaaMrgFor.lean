/- Trades as they lie in memory. Contracts over this seat's translation: package margin's putBy, reserved, For. -/
import Derived.Test.YtdeahageabacbaaSidMap
import Derived.Deep.RegionHeld3
import Derived.OwnWalk
namespace Go.Proofs.Ytdeahageabacbaa.mrg
open Go.RowKit Go.Proofs.Ytdeahageabacbaa.mee

theorem tV_agg (t : T) : Value.agg (tV t).toArray = .agg #[.int .i64 t.maker, .int .i64 t.taker, .int .i64 t.frm, .int .i64 t.into, .int .i64 t.price, .int .i64 t.qty] := rfl
/-- Trades lie in a block from an offset on. -/
def Lies (w : World) (b o : Nat) (zs : List T) : Prop := ∀ j, j < zs.length → ∀ i v, (tV zs[j]!)[i]? = some v → w.cell? ⟨b, o + j * 6 + i, none⟩ = some v
/-- A slice value that reads as a list of trades. -/
def TL (w : World) (v : Value) (zs : List T) : Prop :=
  (v = .slice none 0 0 ∧ zs = []) ∨ ∃ b o c, v = .slice (some ⟨b, o, none⟩) zs.length c ∧ zs.length ≤ c ∧ c ≤ 9223372036854775807 ∧ b < w.heap.size ∧ Lies w b o zs
theorem Lies.below {w w' : World} {b o : Nat} {zs : List T} (h : Lies w b o zs) (hb : b < w.heap.size) (hB : Below w.heap.size w w') : Lies w' b o zs :=
  fun j hj i v hv => (hB.cell (p := ⟨b, o + j * 6 + i, none⟩) hb).trans (h j hj i v hv)
theorem TL.below {w w' : World} {v : Value} {zs : List T} (h : TL w v zs) (hB : Below w.heap.size w w') : TL w' v zs := by
  rcases h with h | ⟨b, o, c, h1, h2, h3, h4, h5⟩
  · exact .inl h
  · exact .inr ⟨b, o, c, h1, h2, h3, Nat.lt_of_lt_of_le h4 hB.size, h5.below h4 hB⟩
theorem getE {α : Type} [Inhabited α] (l : List α) (j : Nat) (h : j < l.length) : l[j]! = l[j] := by simp [h]
theorem TL.form {w : World} {v : Value} {zs : List T} (h : TL w v zs) : ∃ q c, v = .slice q zs.length c ∧ zs.length ≤ 9223372036854775807 := by
  rcases h with ⟨h1, h2⟩ | ⟨b, o, c, h1, h2, h3, h4, h5⟩
  · subst h2; exact ⟨none, 0, h1, by simp⟩
  · exact ⟨some ⟨b, o, none⟩, c, h1, by omega⟩
theorem TL.at {w : World} {q : Option Addr} {n c : Nat} {zs : List T} (h : TL w (.slice q n c) zs) {k : Nat} (hk : k < zs.length) : ∃ g off, q = some ⟨g, off, none⟩ ∧ g < w.heap.size ∧ ∀ i v, (tV zs[k]!)[i]? = some v → w.cell? ⟨g, off + k * 6 + i, none⟩ = some v := by
  rcases h with ⟨h1, h2⟩ | ⟨b, o, c, h1, h2, h3, h4, h5⟩
  · subst h2; simp at hk
  · cases h1
    exact ⟨b, o, rfl, h4, h5 k hk⟩
end Go.Proofs.Ytdeahageabacbaa.mrg
namespace Go.Proofs.Ytdeahageabacbaa.mrg
open Go.RowKit Go.Proofs.Ytdeahageabacbaa.mee
open Go.Proofs.Ytdeahageabacbaa.spn (keeps bcell spanB spanV of_any qty_any price_any side_any scheck1 scheck2 rangeE)
open Go.Proofs.Ytdeahageabacbaa.ord (O oV chk errV errV_zero errV_of check_any mB mE meets_any bal prB)

theorem hidM {P : Prop} (h : P) : Hid P := h
/-- The price at which cash is put by for an order. -/
def resv (o : O) : Int := if o.kind = 2 then 10000 else o.price
/-- What is put by: cash and stock. -/
def putC (s p q : Int) : Int := if s = 1 then wrap64 (p * q) else 0
def putS (s q : Int) : Int := if s = 1 then 0 else q

theorem putBy_any (s p q : Int) (w : World) : Calls Try.prog 12 #[.int .i64 s, .int .i64 p, .int .i64 q] w fun e w' => e = .returned (.tuple #[.int .i64 (putC s p q), .int .i64 (putS s q)]) ∧ w' = w := by
  by_cases h : s = 1
  · subst h
    have e1 : putC 1 p q = wrap64 (p * q) := if_pos rfl
    have e2 : putS 1 q = 0 := if_pos rfl
    rw [e1, e2]
    clear e1 e2
    go_enter Try.func12, Try.ntmps12
    go_wp2
    go_ret2
    exact ⟨rfl, rfl⟩
  · have h1 : (s == 1) = false := by simp [h]
    have e1 : putC s p q = 0 := if_neg h
    have e2 : putS s q = q := if_neg h
    rw [e1, e2]
    clear e1 e2
    go_enter Try.func12, Try.ntmps12
    go_wp2
    go_ret2
    exact ⟨rfl, rfl⟩

theorem reserved_any (a b c d p q s t : Int) (w : World) : Calls Try.prog 13 #[.agg #[.int .i64 a, .int .i64 b, .int .i64 c, .int .i64 d, .int .i64 p, .int .i64 q, .int .i64 s, .int .i64 t]] w fun e w' => e = .returned (.int .i64 (resv ⟨a, b, c, d, p, q, s, t⟩)) ∧ Below w.heap.size w w' := by
  by_cases h : d = 2
  · have e1 : resv ⟨a, b, c, d, p, q, s, t⟩ = 10000 := if_pos h
    rw [e1]
    subst h
    go_enter Try.func13, Try.ntmps13
    go_wp2
    go_ret
    exact ⟨rfl, (Below.refl _ _).alloc (Nat.le_refl _) _⟩
  · have h1 : (d == 2) = false := by simp [h]
    have e1 : resv ⟨a, b, c, d, p, q, s, t⟩ = p := if_neg h
    rw [e1]
    clear e1
    go_enter Try.func13, Try.ntmps13
    go_wp2
    go_ret
    exact ⟨rfl, (Below.refl _ _).alloc (Nat.le_refl _) _⟩
theorem reserved_V (V : World) (a b c d p q s t : Int) (w : World) (h : Below V.heap.size V w) : Calls Try.prog 13 #[.agg #[.int .i64 a, .int .i64 b, .int .i64 c, .int .i64 d, .int .i64 p, .int .i64 q, .int .i64 s, .int .i64 t]] w fun e w' => e = .returned (.int .i64 (resv ⟨a, b, c, d, p, q, s, t⟩)) ∧ Below V.heap.size V w' :=
  (reserved_any a b c d p q s t w).mono fun _ _ h' => ⟨h'.1, h.trans (h'.2.mono h.size)⟩
theorem putBy_V (V : World) (s p q : Int) (w : World) (h : Below V.heap.size V w) : Calls Try.prog 12 #[.int .i64 s, .int .i64 p, .int .i64 q] w fun e w' => e = .returned (.tuple #[.int .i64 (putC s p q), .int .i64 (putS s q)]) ∧ Below V.heap.size V w' :=
  (putBy_any s p q w).mono fun _ _ h' => ⟨h'.1, h'.2 ▸ h⟩

/-- What For tells. -/
def forC (o : O) : Int := if chk o = 0 then putC o.side (resv o) o.qty else 0
def forS (o : O) : Int := if chk o = 0 then putS o.side o.qty else 0

set_option maxRecDepth 100000 in
set_option maxHeartbeats 2000000 in
theorem for_walk (a b c d p q s t : Int) (w : World) :
    Calls Try.prog 5 #[.agg #[.int .i64 a, .int .i64 b, .int .i64 c, .int .i64 d, .int .i64 p, .int .i64 q, .int .i64 s, .int .i64 t]] w fun e w' => e = .returned (.tuple #[.int .i64 (forC ⟨a, b, c, d, p, q, s, t⟩), .int .i64 (forS ⟨a, b, c, d, p, q, s, t⟩), errV (chk ⟨a, b, c, d, p, q, s, t⟩)]) ∧ Below w.heap.size w w' := by
  have HCK : Hid (∀ W, Calls Try.prog 11 #[.agg #[.int .i64 a, .int .i64 b, .int .i64 c, .int .i64 d, .int .i64 p, .int .i64 q, .int .i64 s, .int .i64 t]] W fun e w' => e = .returned (errV (chk ⟨a, b, c, d, p, q, s, t⟩)) ∧ Below W.heap.size W w') := fun W => check_any ⟨a, b, c, d, p, q, s, t⟩ W
  by_cases h0 : chk ⟨a, b, c, d, p, q, s, t⟩ = 0
  rotate_left
  · have e1 : forC ⟨a, b, c, d, p, q, s, t⟩ = 0 := if_neg h0
    have e2 : forS ⟨a, b, c, d, p, q, s, t⟩ = 0 := if_neg h0
    rw [e1, e2, errV_of h0]
    rw [errV_of h0] at HCK
    clear e1 e2
    generalize chk ⟨a, b, c, d, p, q, s, t⟩ = k at *
    go_enter Try.func5, Try.ntmps5
    go_wp2_with fail
    refine (HCK.out _).mono ?_
    rintro e w1 ⟨rfl, hb⟩
    have hW : Below w.heap.size w w1 := ((Below.refl _ _).alloc (Nat.le_refl _) _).trans (hb.mono (by simp))
    go_wp2_with fail
    go_ret3
    exact ⟨rfl, hW⟩
  have e1 : forC ⟨a, b, c, d, p, q, s, t⟩ = putC c (resv ⟨a, b, c, d, p, q, s, t⟩) q := if_pos h0
  have e2 : forS ⟨a, b, c, d, p, q, s, t⟩ = putS c q := if_pos h0
  rw [e1, e2, h0, errV_zero]
  rw [h0, errV_zero] at HCK
  clear e1 e2 h0
  have HRS : Hid (∀ V W, Below V.heap.size V W → Calls Try.prog 13 #[.agg #[.int .i64 a, .int .i64 b, .int .i64 c, .int .i64 d, .int .i64 p, .int .i64 q, .int .i64 s, .int .i64 t]] W fun e w' => e = .returned (.int .i64 (resv ⟨a, b, c, d, p, q, s, t⟩)) ∧ Below V.heap.size V w') := fun V W h => reserved_V V a b c d p q s t W h
  generalize resv ⟨a, b, c, d, p, q, s, t⟩ = rv at *
  go_enter Try.func5, Try.ntmps5
  go_wp2_with fail
  refine (HCK.out _).mono ?_
  rintro e w1 ⟨rfl, hb⟩
  have hW : Below w.heap.size w w1 := ((Below.refl _ _).alloc (Nat.le_refl _) _).trans (hb.mono (by simp))
  have d0 : w1.cell? ⟨w.heap.size, 0, none⟩ = some (.int .i64 a) := keeps hb (by simp)
  have d1 : w1.cell? ⟨w.heap.size, 1, none⟩ = some (.int .i64 b) := keeps hb (by simp)
  have d2 : w1.cell? ⟨w.heap.size, 2, none⟩ = some (.int .i64 c) := keeps hb (by simp)
  have d3 : w1.cell? ⟨w.heap.size, 3, none⟩ = some (.int .i64 d) := keeps hb (by simp)
  have d4 : w1.cell? ⟨w.heap.size, 4, none⟩ = some (.int .i64 p) := keeps hb (by simp)
  have d5 : w1.cell? ⟨w.heap.size, 5, none⟩ = some (.int .i64 q) := keeps hb (by simp)
  have d6 : w1.cell? ⟨w.heap.size, 6, none⟩ = some (.int .i64 s) := keeps hb (by simp)
  have d7 : w1.cell? ⟨w.heap.size, 7, none⟩ = some (.int .i64 t) := keeps hb (by simp)
  clear hb
  have SO : Hid (∀ W, Below w1.heap.size w1 W → (Below w1.heap.size w1 W ∧ W.cell? ⟨w.heap.size, 0, none⟩ = some (.int .i64 a) ∧ W.cell? ⟨w.heap.size, 1, none⟩ = some (.int .i64 b) ∧ W.cell? ⟨w.heap.size, 2, none⟩ = some (.int .i64 c) ∧ W.cell? ⟨w.heap.size, 3, none⟩ = some (.int .i64 d) ∧ W.cell? ⟨w.heap.size, 4, none⟩ = some (.int .i64 p) ∧ W.cell? ⟨w.heap.size, 5, none⟩ = some (.int .i64 q) ∧ W.cell? ⟨w.heap.size, 6, none⟩ = some (.int .i64 s) ∧ W.cell? ⟨w.heap.size, 7, none⟩ = some (.int .i64 t))) := fun W hW => ⟨hW, keeps hW d0, keeps hW d1, keeps hW d2, keeps hW d3, keeps hW d4, keeps hW d5, keeps hW d6, keeps hW d7⟩
  go_upto_region 4 with fail
  go_region_held3 (fun W => Below w1.heap.size w1 W ∧ W.cell? ⟨w.heap.size, 0, none⟩ = some (.int .i64 a) ∧ W.cell? ⟨w.heap.size, 1, none⟩ = some (.int .i64 b) ∧ W.cell? ⟨w.heap.size, 2, none⟩ = some (.int .i64 c) ∧ W.cell? ⟨w.heap.size, 3, none⟩ = some (.int .i64 d) ∧ W.cell? ⟨w.heap.size, 4, none⟩ = some (.int .i64 p) ∧ W.cell? ⟨w.heap.size, 5, none⟩ = some (.int .i64 q) ∧ W.cell? ⟨w.heap.size, 6, none⟩ = some (.int .i64 s) ∧ W.cell? ⟨w.heap.size, 7, none⟩ = some (.int .i64 t))
    ((refine SO.out _ ?_; (repeat' (first | with_reducible assumption | with_reducible refine bal ?_ _ | with_reducible refine Below.drew ?_ | with_reducible exact Below.refl _ _ | with_reducible exact Nat.le_refl _ | with_reducible exact Below.size (by with_reducible assumption) | with_reducible refine Nat.le_succ_of_le ?_))))
    (first | (go_at_call 13; refine (HRS.out w1 _ ?_).mono ?_; (repeat' (first | with_reducible assumption | with_reducible refine bal ?_ _ | with_reducible refine Below.drew ?_ | with_reducible exact Below.refl _ _ | with_reducible exact Nat.le_refl _ | with_reducible exact Below.size (by with_reducible assumption) | with_reducible refine Nat.le_succ_of_le ?_)); rintro x W ⟨rfl, hbn⟩) | (go_at_call 12; refine (putBy_V w1 _ _ _ _ ?_).mono ?_; (repeat' (first | with_reducible assumption | with_reducible refine bal ?_ _ | with_reducible refine Below.drew ?_ | with_reducible exact Below.refl _ _ | with_reducible exact Nat.le_refl _ | with_reducible exact Below.size (by with_reducible assumption) | with_reducible refine Nat.le_succ_of_le ?_)); rintro x W2 ⟨rfl, hbn⟩))
  all_goals
    have hW2 : Below w.heap.size w W2 := hW.trans (hbn.mono hW.size)
    clear SO d0 d1 d2 d3 d4 d5 d6 d7
    go_wp2_with fail
    go_ret3
    exact ⟨rfl, hW2⟩
/-- For, at every order. -/
theorem for_any (o : O) (w : World) :
    Calls Try.prog 5 #[oV o] w fun e w' => e = .returned (.tuple #[.int .i64 (forC o), .int .i64 (forS o), errV (chk o)]) ∧ Below w.heap.size w w' := by
  obtain ⟨a, b, c, d, p, q, s, t⟩ := o
  exact for_walk a b c d p q s t w
end Go.Proofs.Ytdeahageabacbaa.mrg
