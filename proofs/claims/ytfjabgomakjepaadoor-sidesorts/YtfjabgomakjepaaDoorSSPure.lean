/- Plain facts for the law SideSorts. -/
import Derived.Test.YtfjabgomakjepaaDoorSidAdd
namespace Go.Proofs.YtfjabgomakjepaaDoor.sideSorts
open Go.RowKit Go.Proofs.YtfjabgomakjepaaDoor.spn Go.Proofs.YtfjabgomakjepaaDoor.que Go.Proofs.YtfjabgomakjepaaDoor.sid
open Go.Proofs.YtfjabgomakjepaaDoor.tickP (priceB sideB)

/-- A slice of numbers that comes in. -/
def IL (w : World) (v : Value) (zs : List Int) : Prop :=
  (v = .slice none 0 0 ∧ zs = []) ∨ ∃ b o c, v = .slice (some ⟨b, o, none⟩) zs.length c ∧ zs.length ≤ c ∧ c ≤ 9223372036854775807 ∧ b < w.heap.size ∧ ∀ j, j < zs.length → w.cell? ⟨b, o + j, none⟩ = some (.int .i64 zs[j]!)

theorem IL.below {w w' : World} {v : Value} {zs : List Int} (h : IL w v zs) (hB : Below w.heap.size w w') : IL w' v zs := by
  rcases h with h | ⟨b, o, c, h1, h2, h3, h4, h5⟩
  · exact .inl h
  · exact .inr ⟨b, o, c, h1, h2, h3, Nat.lt_of_lt_of_le h4 hB.size, fun j hj => keeps hB (h5 j hj)⟩
theorem sgo_first {s : Int} (hs : sideB s = true) : ∀ (t : List L) (p : Int), priceB p = true → sgo s (some p) t = 0 → ∀ y ∈ t, (s = 1 → y.price < p) ∧ (s = 2 → p < y.price) := by
  intro t
  induction t with
  | nil => intro p _ _ y hy; cases hy
  | cons x u ih =>
    intro p hp h y hy
    obtain ⟨h1, h2, h3⟩ := sgo_cons h
    have hx := price_of h1
    have h4 : leadB s p x.price = true := h2
    rw [lead_iff hs hp hx] at h4
    rcases List.mem_cons.1 hy with rfl | hy
    · exact ⟨fun e => by rw [if_pos e] at h4; exact h4, fun e => by rw [if_neg (by omega)] at h4; exact h4⟩
    · obtain ⟨g1, g2⟩ := ih x.price hx h3 y hy
      refine ⟨fun e => ?_, fun e => ?_⟩
      · rw [if_pos e] at h4; have := g1 e; omega
      · rw [if_neg (by omega)] at h4; have := g2 e; omega
/-- The first level is the best one. -/
theorem first_best {s : Int} {xs : List L} (h : schk s xs = 0) (hne : 0 < xs.length) : ∀ y ∈ xs, (s = 1 → y.price ≤ xs[0]!.price) ∧ (s = 2 → xs[0]!.price ≤ y.price) := by
  obtain ⟨h1, h2, -, -⟩ := schk_zero h
  cases xs with
  | nil => simp at hne
  | cons x t =>
    obtain ⟨g1, -, g3⟩ := sgo_cons h2
    intro y hy
    simp only [List.getElem!_cons_zero]
    rcases List.mem_cons.1 hy with rfl | hy
    · exact ⟨fun _ => Int.le_refl _, fun _ => Int.le_refl _⟩
    · obtain ⟨e1, e2⟩ := sgo_first h1 t x.price (price_of g1) g3 y hy
      exact ⟨fun e => Int.le_of_lt (e1 e), fun e => Int.le_of_lt (e2 e)⟩
theorem put_keeps {s p : Int} {r : R} {ls : List L} : (∀ y ∈ ls, ∃ x ∈ putL s p r ls, x.price = y.price) ∧ ∃ x ∈ putL s p r ls, x.price = p := by
  obtain ⟨a, b, -, ⟨zs, e1, e2⟩ | ⟨e1, e2, -⟩⟩ := put_split s p r ls
  · rw [e2]
    refine ⟨fun y hy => ?_, ⟨⟨p, zs ++ [r]⟩, by simp, rfl⟩⟩
    rw [e1] at hy
    rcases List.mem_append.1 hy with hy | hy
    · exact ⟨y, by simp [hy], rfl⟩
    · rcases List.mem_cons.1 hy with rfl | hy
      · exact ⟨⟨p, zs ++ [r]⟩, by simp, rfl⟩
      · exact ⟨y, by simp [hy], rfl⟩
  · rw [e2]
    refine ⟨fun y hy => ?_, ⟨⟨p, [r]⟩, by simp, rfl⟩⟩
    rw [e1] at hy
    rcases List.mem_append.1 hy with hy | hy <;> exact ⟨y, by simp [hy], rfl⟩
/-- What is known of the side behind so many prices. -/
def SInv (s : Int) (zs : List Int) (kk : Nat) (xs : List L) : Prop :=
  schk s xs = 0 ∧ cnt xs ≤ kk ∧ (∀ id ∈ ids xs, id ≤ kk) ∧ ∀ j, j < kk → priceB zs[j]! = true → ∃ x ∈ xs, x.price = zs[j]!
theorem sinv_zero {s : Int} (hs : sideB s = true) (zs : List Int) : SInv s zs 0 [] := ⟨schk_none hs, by simp [cnt], fun id h => by simp [ids, flatP] at h, fun j hj => by omega⟩
theorem sinv_skip {s : Int} {zs : List Int} {kk : Nat} {xs : List L} (h : SInv s zs kk xs) (hp : priceB zs[kk]! = false) : SInv s zs (kk + 1) xs := by
  obtain ⟨h1, h2, h3, h4⟩ := h
  refine ⟨h1, by omega, fun id hi => by have := h3 id hi; omega, fun j hj hpj => ?_⟩
  by_cases e : j = kk
  · rw [e, hp] at hpj; cases hpj
  · exact h4 j (by omega) hpj
theorem one_rest (i : Int) (h1 : 1 ≤ i) (h2 : i ≤ 100) : rchk ⟨i, 1, 1, 0, 0⟩ = 0 :=
  rchk_of ⟨by simp, by simp, by simp, fun _ => rfl, fun h => absurd rfl h, ⟨h1, by show i ≤ 9999; omega⟩, by simp⟩
theorem sinv_add {s : Int} {zs : List Int} {kk : Nat} {xs : List L} (h : SInv s zs kk xs) (hk : kk < 50) (hp : priceB zs[kk]! = true) :
    addE s xs zs[kk]! ⟨(kk : Int) + 1, 1, 1, 0, 0⟩ = 0 ∧ SInv s zs (kk + 1) (putL s zs[kk]! ⟨(kk : Int) + 1, 1, 1, 0, 0⟩ xs) := by
  obtain ⟨h1, h2, h3, h4⟩ := h
  have hr := one_rest ((kk : Int) + 1) (by omega) (by omega)
  have hid : ((kk : Int) + 1) ∉ ids xs := fun e => by have := h3 _ e; omega
  refine ⟨?_, schk_put h1 hp hr hid (by omega), by rw [cnt_put]; omega, fun id hi => ?_, fun j hj hpj => ?_⟩
  · unfold addE
    rw [if_pos h1, if_pos hp, if_pos hr, if_neg hid, if_neg (by omega)]
  · rw [ids_allR] at hi
    have := ((put_perm s zs[kk]! ⟨(kk : Int) + 1, 1, 1, 0, 0⟩ xs).map (·.id)).mem_iff.1 hi
    rw [List.map_cons, List.mem_cons, ← ids_allR] at this
    rcases this with e | e
    · rw [e]; show (kk : Int) + 1 ≤ _; omega
    · have := h3 _ e; omega
  · obtain ⟨g1, g2⟩ := put_keeps (s := s) (p := zs[kk]!) (r := ⟨(kk : Int) + 1, 1, 1, 0, 0⟩) (ls := xs)
    by_cases e : j = kk
    · rw [e]; exact g2
    · obtain ⟨y, hy, ey⟩ := h4 j (by omega) hpj
      obtain ⟨x, hx, ex⟩ := g1 y hy
      exact ⟨x, hx, by rw [ex, ey]⟩
theorem add_skip {s : Int} {zs : List Int} {kk : Nat} {xs : List L} (r : R) (h : SInv s zs kk xs) (hp : priceB zs[kk]! = false) : addE s xs zs[kk]! r = 1 := by
  unfold addE; rw [if_pos h.1, if_neg (by rw [hp]; simp)]
/-- No price is better than the best. -/
theorem sinv_best {s : Int} {zs : List Int} {kk : Nat} {xs : List L} (h : SInv s zs kk xs) (hne : 0 < xs.length) {j : Nat} (hj : j < kk) (hp : priceB zs[j]! = true) : (s = 1 → zs[j]! ≤ xs[0]!.price) ∧ (s = 2 → xs[0]!.price ≤ zs[j]!) := by
  obtain ⟨x, hx, e⟩ := h.2.2.2 j hj hp
  have := first_best h.1 hne x hx
  rw [e] at this
  exact this
theorem put_pos (s p : Int) (r : R) (ls : List L) : 0 < (putL s p r ls).length := by
  obtain ⟨a, b, -, ⟨zs, e1, e2⟩ | ⟨e1, e2, -⟩⟩ := put_split s p r ls <;> rw [e2] <;> simp <;> omega
theorem best_fine {s : Int} {xs : List L} (h : schk s xs = 0) (hne : 0 < xs.length) : bestE s xs = 0 ∧ bestP s xs = xs[0]!.price := by
  have e : bestE s xs = 0 := by unfold bestE; rw [if_pos h, if_neg (fun e => by rw [e] at hne; simp at hne)]
  exact ⟨e, by unfold bestP; rw [if_pos e]⟩
theorem wrapOne (k : Nat) (h : k ≤ 100) : wrap64 ((k : Int) + 1) = (k : Int) + 1 := by unfold wrap64; omega

end Go.Proofs.YtfjabgomakjepaaDoor.sideSorts
