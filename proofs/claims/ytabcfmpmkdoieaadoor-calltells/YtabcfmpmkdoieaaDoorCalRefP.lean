/- Plain facts: the price of a call, sought from the lowest to the highest, is the price of the best offer. -/
import Derived.Test.YtabcfmpmkdoieaaDoorCalPure
namespace Go.Proofs.YtabcfmpmkdoieaaDoor.cal
open Go.Proofs.YtabcfmpmkdoieaaDoor.ord

theorem bet_trans {a b c : Of} (h1 : bet a b = true) (h2 : bet b c = true) : bet a c = true := by
  unfold bet at *
  split at h1 <;> split at h2 <;> split <;> (try split at h1) <;> (try split at h2) <;> (try split) <;> simp only [decide_eq_true_eq] at * <;> omega
theorem bet_total {a b : Of} (h1 : bet a b = false) (h2 : bet b a = false) : a.price = b.price := by
  unfold bet at *
  split at h1 <;> split at h2 <;> (try split at h1) <;> (try split at h2) <;> simp only [decide_eq_false_iff_not] at * <;> omega
theorem bet_none {a : Of} (hp : 0 ≤ a.price) : bet a ⟨0, 0, 0⟩ = decide (0 < a.vol) := by
  unfold bet ap
  split
  · rename_i h
    simp only at h
    rw [h]
    split
    · have hq : ¬ a.price < 0 := by omega
      simp [hq]
    · refine decide_eq_decide.2 ⟨fun h => ?_, fun h => by omega⟩
      simp only at h; omega
  · rfl

/-- What the best offer among some is, sought from one that is there. -/
theorem bestF_spec (zs : List O) : ∀ (t : List O) (b : Of), (bestF zs t b = b ∨ (bet (bestF zs t b) b = true ∧ ∃ o ∈ t, bestF zs t b = ofAt zs o.price)) ∧ (∀ o ∈ t, bet (ofAt zs o.price) (bestF zs t b) = false)
  | [], b => ⟨Or.inl rfl, by simp⟩
  | o :: t, b => by
    rw [bestF]
    cases hb : bet (ofAt zs o.price) b with
    | false =>
      rw [if_neg (by simp)]
      obtain ⟨h1, h2⟩ := bestF_spec zs t b
      refine ⟨?_, fun x hx => ?_⟩
      · rcases h1 with h1 | ⟨h1, x, hx, h3⟩
        · exact Or.inl h1
        · exact Or.inr ⟨h1, x, List.mem_cons_of_mem _ hx, h3⟩
      · rcases List.mem_cons.1 hx with rfl | hx
        · rcases h1 with h1 | ⟨h1, -⟩
          · rw [h1]; exact hb
          · cases hc : bet (ofAt zs x.price) (bestF zs t b) with
            | false => rfl
            | true => rw [bet_trans hc h1] at hb; cases hb
        · exact h2 x hx
    | true =>
      rw [if_pos rfl]
      obtain ⟨h1, h2⟩ := bestF_spec zs t (ofAt zs o.price)
      refine ⟨?_, fun x hx => ?_⟩
      · rcases h1 with h1 | ⟨h1, x, hx, h3⟩
        · exact Or.inr ⟨by rw [h1]; exact hb, o, List.mem_cons_self, h1⟩
        · exact Or.inr ⟨bet_trans h1 hb, x, List.mem_cons_of_mem _ hx, h3⟩
      · rcases List.mem_cons.1 hx with rfl | hx
        · rcases h1 with h1 | ⟨h1, -⟩
          · rw [h1]
            unfold bet
            rw [if_pos rfl, if_pos rfl]
            simp
          · cases hc : bet (ofAt zs x.price) (bestF zs t (ofAt zs x.price)) with
            | false => rfl
            | true =>
              have := bet_trans h1 hc
              unfold bet at this
              rw [if_pos rfl, if_pos rfl] at this
              simp at this
        · exact h2 x hx

theorem ofAt_vol {zs : List O} (h : Good zs) (p : Int) : 0 ≤ (ofAt zs p).vol := by
  have h1 := ws_small h 1 p zs.length
  have h2 := ws_small h 2 p zs.length
  rw [List.take_length] at h1 h2
  unfold ofAt
  simp only
  omega

/-- What holds of the price found among those up to one. -/
def RB (zs : List O) (k b : Int) : Prop :=
  (b = 0 ∧ ∀ o ∈ zs, o.price ≤ k → (ofAt zs o.price).vol ≤ 0) ∨ (1 ≤ b ∧ b ≤ k ∧ (∃ o ∈ zs, o.price = b) ∧ 0 < (ofAt zs b).vol ∧ ∀ o ∈ zs, o.price ≤ k → bet (ofAt zs o.price) (ofAt zs b) = false)
theorem RB.start {zs : List O} (h : Good zs) : RB zs 0 0 := by
  refine Or.inl ⟨rfl, fun o ho hk => ?_⟩
  have := (h.fine o ho).bounds
  omega
/-- Whether a price is taken in place of one found before. -/
def better' (zs : List O) (p b : Int) : Prop := 0 < (ofAt zs p).vol ∧ (b = 0 ∨ (ofAt zs b).vol < (ofAt zs p).vol ∨ ((ofAt zs p).vol = (ofAt zs b).vol ∧ ap (ofAt zs p) < ap (ofAt zs b)))
theorem RB.skip {zs : List O} {k b : Int} (h : RB zs k b) (hn : ∀ o ∈ zs, ¬ o.price = k + 1) : RB zs (k + 1) b := by
  rcases h with ⟨h1, h2⟩ | ⟨h1, h2, h3, h4, h5⟩
  · exact Or.inl ⟨h1, fun o ho hk => h2 o ho (by have := hn o ho; omega)⟩
  · exact Or.inr ⟨h1, by omega, h3, h4, fun o ho hk => h5 o ho (by have := hn o ho; omega)⟩
theorem RB.take {zs : List O} {k b : Int} (h : RB zs k b) (h0 : 0 ≤ k) (hn : ∃ o ∈ zs, o.price = k + 1) (ht : better' zs (k + 1) b) : RB zs (k + 1) (k + 1) := by
  refine Or.inr ⟨by omega, by omega, hn, ht.1, fun o ho hk => ?_⟩
  rcases h with ⟨h1, h2⟩ | ⟨h1, h2, h3, h4, h5⟩
  · by_cases he : o.price = k + 1
    · rw [he]; unfold bet; rw [if_pos rfl, if_pos rfl]; simp
    · have := h2 o ho (by omega)
      have ht1 := ht.1
      unfold bet
      rw [if_neg (by omega)]
      exact decide_eq_false (by omega)
  · have hb : bet (ofAt zs (k + 1)) (ofAt zs b) = true := by
      obtain ⟨-, h | h | ⟨h, h'⟩⟩ := ht
      · omega
      · unfold bet; rw [if_neg (by omega)]; exact decide_eq_true h
      · unfold bet; rw [if_pos h, if_neg (by omega)]; exact decide_eq_true h'
    by_cases he : o.price = k + 1
    · rw [he]; unfold bet; rw [if_pos rfl, if_pos rfl]; simp
    · have h6 := h5 o ho (by omega)
      cases hc : bet (ofAt zs o.price) (ofAt zs (k + 1)) with
      | false => rfl
      | true => rw [bet_trans hc hb] at h6; cases h6
theorem RB.leave {zs : List O} {k b : Int} (h : RB zs k b) (ht : ¬ better' zs (k + 1) b) : RB zs (k + 1) b := by
  unfold better' at ht
  rcases h with ⟨h1, h2⟩ | ⟨h1, h2, h3, h4, h5⟩
  · refine Or.inl ⟨h1, fun o ho hk => ?_⟩
    by_cases he : o.price = k + 1
    · rw [he]
      by_cases hv : 0 < (ofAt zs (k + 1)).vol
      · exact absurd ⟨hv, Or.inl h1⟩ ht
      · omega
    · exact h2 o ho (by omega)
  · refine Or.inr ⟨h1, by omega, h3, h4, fun o ho hk => ?_⟩
    by_cases he : o.price = k + 1
    · rw [he]
      unfold bet
      by_cases hv : (ofAt zs (k + 1)).vol = (ofAt zs b).vol
      · rw [if_pos hv]
        have hn : ¬ ap (ofAt zs (k + 1)) < ap (ofAt zs b) := fun hl => ht ⟨by omega, Or.inr (Or.inr ⟨hv, hl⟩)⟩
        split
        · refine decide_eq_false ?_
          show ¬ (k + 1 < b)
          omega
        · exact decide_eq_false hn
      · rw [if_neg hv]
        refine decide_eq_false (fun hl => ht ⟨by omega, Or.inr (Or.inl hl)⟩)
    · exact h5 o ho (by omega)
/-- The price found among all is that of the best offer. -/
theorem RB.last {zs : List O} (hg : Good zs) {b : Int} (h : RB zs 10000 b) : b = (if (best zs).vol = 0 then 0 else (best zs).price) ∧ (¬ b = 0 → (ofAt zs b).vol = (best zs).vol) ∧ (b = 0 ↔ (best zs).vol = 0) := by
  obtain ⟨h1, h2⟩ := bestF_spec zs zs ⟨0, 0, 0⟩
  change (best zs = _ ∨ _) at h1
  change (∀ o ∈ zs, bet (ofAt zs o.price) (best zs) = false) at h2
  have hle : ∀ o ∈ zs, o.price ≤ 10000 := fun o ho => by have := (hg.fine o ho).bounds; omega
  rcases h1 with h1 | ⟨h1, o, ho, h3⟩
  · rw [h1]
    have hz : b = 0 := by
      rcases h with ⟨h, -⟩ | ⟨k1, k2, ⟨x, hx, k3⟩, k4, k5⟩
      · exact h
      · have := h2 x hx
        rw [h1, bet_none (by have := (hg.fine x hx).bounds; show 0 ≤ x.price; omega), k3, decide_eq_false_iff_not] at this
        omega
    exact ⟨by rw [hz]; rfl, fun h => absurd hz h, by simp [hz]⟩
  · change bet (best zs) _ = true at h1
    change best zs = _ at h3
    have hv : 0 < (best zs).vol := by
      rw [h3] at h1 ⊢
      rw [bet_none (by have := (hg.fine o ho).bounds; show 0 ≤ o.price; omega), decide_eq_true_eq] at h1
      exact h1
    rcases h with ⟨-, h⟩ | ⟨k1, k2, ⟨x, hx, k3⟩, k4, k5⟩
    · have := h o ho (hle o ho)
      rw [← h3] at this
      omega
    · have a1 := k5 o ho (hle o ho)
      have a2 := h2 x hx
      rw [k3] at a2
      rw [← h3] at a1
      have e : (best zs).price = b := bet_total a1 a2
      have e2 : best zs = ofAt zs b := by
        rw [h3] at e ⊢
        have e' : o.price = b := e
        rw [e']
      refine ⟨?_, fun _ => ?_, ?_⟩
      · rw [if_neg (by omega)]; exact e.symm
      · rw [e2]
      · constructor <;> intro h <;> omega
end Go.Proofs.YtabcfmpmkdoieaaDoor.cal
