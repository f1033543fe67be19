/- Plain facts: an insertion sort of a part of a row, by a key, keeps who stood ahead. -/
import Derived.Test.YtabcfmpmkdoieaaDoorCalRot
namespace Go.Proofs.YtabcfmpmkdoieaaDoor.cal
open Go.Sort

section
variable {key : Nat → Int}
theorem mg_trans {F G H : Nat → Nat} {a b c : Nat} (hc : c ≤ b) (h : Sm F G a c) (ho : ∀ j, (j < a ∨ c ≤ j) → G j = F j) (k : Mg key G H a b) : Mg key F H a b :=
  ⟨k.1, (h.wide ho (Nat.le_refl _) hc).trans k.2.1, fun j hj => (k.2.2 j hj).trans (ho j (by omega))⟩

theorem inner_any (lt : Nat → Nat → Bool) (hlt : ∀ x y, lt x y = decide (key x < key y)) (a i n : Nat) (F : Nat → Nat) (hi : i < n) (hS : Srt key F a i) (hT : TT key F a i (i + 1)) :
    ∀ (j : Nat) (d : Array Nat), a ≤ j → j ≤ i → Fn d n (rot F j i (i + 1)) → (j = i ∨ key (F i) < key (F j)) → ∃ G, Fn (insInner lt a j d) n G ∧ Mg key F G a (i + 1) := by
  intro j
  induction j with
  | zero =>
    intro d h1 h2 hd hk
    refine ⟨_, ?_, mg_left hS hT h1 h2 (.inl (by omega)) hk⟩
    rw [insInner_stop lt a 0 d (.inl (by omega))]
    exact hd
  | succ j ih =>
    intro d h1 h2 hd hk
    have e1 : d[j + 1]! = F i := by
      rw [hd.2 (j + 1) (by omega), rot_one F (j + 1) i (i + 1) (j + 1) (Nat.le_refl _) (by omega)]
      exact congF F (by omega)
    have e2 : d[j]! = F j := by
      rw [hd.2 j (by omega), rot_out F (j + 1) i (i + 1) j h2 (by omega) (.inl (by omega))]
    by_cases hs : j + 1 ≤ a
    · refine ⟨_, ?_, mg_left hS hT h1 h2 (.inl (by omega)) hk⟩
      rw [insInner_stop lt a (j + 1) d (.inl hs)]
      exact hd
    · by_cases hl : key (F i) < key (F j)
      · have h3 : lt d[j + 1]! d[j + 1 - 1]! = true := by
          rw [Nat.add_sub_cancel, e1, e2, hlt]; exact decide_eq_true hl
        rw [insInner_go lt a (j + 1) d (by omega) h3, Nat.add_sub_cancel]
        refine ih _ (by omega) (by omega) ?_ (.inr hl)
        exact (hd.swp (by omega) (by omega)).eq (rot_down F i j h2)
      · refine ⟨_, ?_, mg_left hS hT h1 h2 (.inr (by rw [Nat.add_sub_cancel]; exact hl)) hk⟩
        rw [insInner_stop lt a (j + 1) d (.inr (by rw [Nat.add_sub_cancel, e1, e2, hlt]; exact decide_eq_false hl))]
        exact hd

theorem outer_any (lt : Nat → Nat → Bool) (hlt : ∀ x y, lt x y = decide (key x < key y)) (a b n : Nat) (hb : b ≤ n) :
    ∀ (k i : Nat) (F : Nat → Nat) (d : Array Nat), b - i ≤ k → a < i → Fn d n F → Srt key F a (min i b) → TG key F n → ∃ G, Fn (insOuter lt a b i d) n G ∧ Mg key F G a b := by
  intro k
  induction k with
  | zero =>
    intro i F d hk ha hd hS hT
    refine ⟨F, ?_, Mg.refl (hS.sub (Nat.le_refl _) (by omega))⟩
    rw [insOuter_stop lt a b i d (by omega)]
    exact hd
  | succ k ih =>
    intro i F d hk ha hd hS hT
    by_cases hi : i < b
    · rw [insOuter_go lt a b i d hi]
      have hS' : Srt key F a i := hS.sub (Nat.le_refl _) (by omega)
      obtain ⟨G, g1, g2⟩ := inner_any lt hlt a i n F (by omega) hS' (tg_tt hT (by omega)) i d (by omega) (Nat.le_refl _) (hd.eq (rot_left F i (i + 1)).symm) (.inl rfl)
      obtain ⟨H, h1, h2⟩ := ih (i + 1) G (insInner lt a i d) (by omega) (by omega) g1 (g2.1.sub (Nat.le_refl _) (by omega)) (tg_mg hT (by omega) g2)
      exact ⟨H, h1, mg_trans (c := i + 1) (by omega) g2.2.1 g2.2.2 h2⟩
    · refine ⟨F, ?_, Mg.refl (hS.sub (Nat.le_refl _) (by omega))⟩
      rw [insOuter_stop lt a b i d hi]
      exact hd
theorem isort_any (lt : Nat → Nat → Bool) (hlt : ∀ x y, lt x y = decide (key x < key y)) (a b n : Nat) (hb : b ≤ n) (F : Nat → Nat) (d : Array Nat) (hd : Fn d n F) (hT : TG key F n) : ∃ G, Fn (insertionSort lt d a b) n G ∧ Mg key F G a b :=
  outer_any lt hlt a b n hb _ (a + 1) F d (Nat.le_refl _) (by omega) hd (fun i j h1 h2 h3 => by omega) hT
end
end Go.Proofs.YtabcfmpmkdoieaaDoor.cal
