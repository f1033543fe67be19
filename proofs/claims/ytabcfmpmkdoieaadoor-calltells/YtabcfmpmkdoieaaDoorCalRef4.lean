/- Contracts over this seat's translation: the document's nextOf. -/
import Derived.Test.YtabcfmpmkdoieaaDoorCalRef3
import Derived.Test.YtabcfmpmkdoieaaDoorCalU
import Derived.BigQuiet
import Derived.Deep.QuietTactic
namespace Go.Proofs.YtabcfmpmkdoieaaDoor.cal
open Go.RowKit Go.Proofs.YtabcfmpmkdoieaaDoor.ord
open Go.Proofs.YtabcfmpmkdoieaaDoor.wak (Lies SL oL)
open Go.Proofs.YtabcfmpmkdoieaaDoor.spn (keeps bcell)

/-- Is a price better than another one for who stands on a side? -/
def aheadO (s a b : Int) : Bool := if s = 1 then decide (a < b) else decide (b < a)
theorem retBo {a b : Bool} (h : a = b) : Ending.returned (.bool a) = .returned (.bool b) := by rw [h]
theorem rahead (s a b : Int) (w : World) (hs : s = 1 ∨ s = 2) :
    Calls Tryd.prog 37 #[.int .i64 s, .int .i64 a, .int .i64 b] w fun e w' => e = .returned (.bool (aheadO s a b)) ∧ w' = w := by
  rcases hs with rfl | rfl
  · by_cases hab : a < b
    all_goals
      go_enter Tryd.func37, Tryd.ntmps37
      go_wp2
      go_ret
      exact ⟨retBo (by simp [aheadO, hab]), rfl⟩
  · go_enter Tryd.func37, Tryd.ntmps37
    go_wp2
    go_ret
    exact ⟨retBo (by simp [aheadO]), rfl⟩

/-- Orders of a call, of which some may be traded. -/
def Okk (os : List O) : Prop := ∀ j, j < os.length → (os[j]!).kind = 1 ∧ ((os[j]!).side = 1 ∨ (os[j]!).side = 2) ∧ 0 ≤ (os[j]!).qty
/-- Who may trade. -/
def Cand (os : List O) (side p : Int) (j : Nat) : Prop := (os[j]!).side = side ∧ 0 < (os[j]!).qty ∧ at_ os[j]! p = true
/-- What holds of the first among so many. -/
def NX (os : List O) (side p : Int) (k : Nat) (b : Int) : Prop :=
  (b = -1 ∧ ∀ j, j < k → ¬ Cand os side p j) ∨ ∃ i : Nat, b = (i : Int) ∧ i < k ∧ Cand os side p i ∧ ∀ j, j < k → Cand os side p j → j = i ∨ lt2 (keyO side os) i j
theorem NX.start (os : List O) (side p : Int) : NX os side p 0 (-1) := Or.inl ⟨rfl, fun j h => absurd h (Nat.not_lt_zero j)⟩
theorem NX.skip {os : List O} {side p b : Int} {k : Nat} (h : NX os side p k b) (hn : ¬ Cand os side p k) : NX os side p (k + 1) b := by
  rcases h with ⟨h1, h2⟩ | ⟨i, h1, h2, h3, h4⟩
  · refine Or.inl ⟨h1, fun j hj => ?_⟩
    by_cases e : j = k
    · rw [e]; exact hn
    · exact h2 j (by omega)
  · refine Or.inr ⟨i, h1, by omega, h3, fun j hj hc => ?_⟩
    by_cases e : j = k
    · rw [e] at hc; exact absurd hc hn
    · exact h4 j (by omega) hc
theorem NX.first {os : List O} {side p b : Int} {k : Nat} (h : NX os side p k b) (hb : b < 0) (hc : Cand os side p k) : NX os side p (k + 1) k := by
  rcases h with ⟨h1, h2⟩ | ⟨i, h1, h2, h3, h4⟩
  · refine Or.inr ⟨k, rfl, by omega, hc, fun j hj hc' => ?_⟩
    by_cases e : j = k
    · exact Or.inl e
    · exact absurd hc' (h2 j (by omega))
  · omega
theorem NX.ahead {os : List O} {side p : Int} {k i : Nat} (h : NX os side p k i) (hc : Cand os side p k) (ha : keyO side os k < keyO side os i) : NX os side p (k + 1) k := by
  rcases h with ⟨h1, h2⟩ | ⟨i', h1, h2, h3, h4⟩
  · omega
  · have e : i = i' := by omega
    subst e
    refine Or.inr ⟨k, rfl, by omega, hc, fun j hj hc' => ?_⟩
    by_cases e : j = k
    · exact Or.inl e
    · refine Or.inr ?_
      rcases h4 j (by omega) hc' with rfl | h5 | ⟨h5, -⟩
      · exact Or.inl ha
      · exact Or.inl (by omega)
      · exact Or.inl (by omega)
theorem NX.behind {os : List O} {side p : Int} {k i : Nat} (h : NX os side p k i) (ha : ¬ keyO side os k < keyO side os i) : NX os side p (k + 1) i := by
  rcases h with ⟨h1, h2⟩ | ⟨i', h1, h2, h3, h4⟩
  · omega
  · have e : i = i' := by omega
    subst e
    refine Or.inr ⟨i, rfl, by omega, h3, fun j hj hc' => ?_⟩
    by_cases e : j = k
    · subst e
      refine Or.inr ?_
      by_cases e2 : keyO side os i = keyO side os j
      · exact Or.inr ⟨e2, h2⟩
      · exact Or.inl (by omega)
    · exact h4 j (by omega) hc'
theorem NX.bst {os : List O} {side p : Int} {i : Nat} (h : Bst os side p i) {b : Int} (hx : NX os side p os.length b) : b = (i : Int) := by
  have hc : Cand os side p i := ⟨h.sd, h.left, h.may⟩
  rcases hx with ⟨h1, h2⟩ | ⟨i', h1, h2, h3, h4⟩
  · exact absurd hc (h2 i h.lt)
  · have hb : Bst os side p i' := ⟨h2, h3.1, h3.2.1, h3.2.2, fun j hj a b c => h4 j hj ⟨a, b, c⟩⟩
    rw [h1, bst_det h hb]
theorem key_ahead (side : Int) (os : List O) (k i : Nat) (hs : side = 1 ∨ side = 2) : aheadO (3 - side) (os[k]!).price (os[i]!).price = decide (keyO side os k < keyO side os i) := by
  rcases hs with rfl | rfl
  · unfold aheadO keyO
    rw [if_neg (by decide), if_pos rfl, if_pos rfl]
    exact decide_eq_decide.2 ⟨fun h => by omega, fun h => by omega⟩
  · unfold aheadO keyO
    rw [if_pos (by decide), if_neg (by decide), if_neg (by decide)]

end Go.Proofs.YtabcfmpmkdoieaaDoor.cal
