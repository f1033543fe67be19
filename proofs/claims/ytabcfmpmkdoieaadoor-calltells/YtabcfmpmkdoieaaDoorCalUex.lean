/- Plain facts: a call can be traded out; what follows of a trade. -/
import Derived.Test.YtabcfmpmkdoieaaDoorCalU
namespace Go.Proofs.YtabcfmpmkdoieaaDoor.cal
open Go.Proofs.YtabcfmpmkdoieaaDoor.ord
open Go.Proofs.YtabcfmpmkdoieaaDoor.wak (getE)

theorem lt2_total {key : Nat → Int} {i j : Nat} (h : i ≠ j) : lt2 key i j ∨ lt2 key j i := by
  unfold lt2
  by_cases h1 : key i = key j
  · by_cases h2 : i < j
    · exact .inl (.inr ⟨h1, h2⟩)
    · exact .inr (.inr ⟨h1.symm, by omega⟩)
  · by_cases h2 : key i < key j
    · exact .inl (.inl h2)
    · exact .inr (.inl (by omega))
theorem lt2_tr {key : Nat → Int} {i j k : Nat} (h : lt2 key i j) (g : lt2 key j k) : lt2 key i k := by
  unfold lt2 at *
  rcases h with h | ⟨h1, h2⟩ <;> rcases g with g | ⟨g1, g2⟩
  · exact .inl (by omega)
  · exact .inl (by omega)
  · exact .inl (by omega)
  · exact .inr ⟨by omega, by omega⟩
theorem ins_ex (key : Nat → Int) : ∀ (is : List Nat) (n : Nat), is.Pairwise (lt2 key) → n ∉ is → ∃ js : List Nat, js.Pairwise (lt2 key) ∧ (∀ x, x ∈ js ↔ x = n ∨ x ∈ is) ∧ js.length = is.length + 1
  | [], n, _, _ => ⟨[n], by simp, fun x => by simp, rfl⟩
  | a :: t, n, h, hn => by
    have hp := List.pairwise_cons.1 h
    have hna : n ≠ a := fun e => hn (by rw [e]; exact List.mem_cons_self)
    rcases lt2_total (key := key) hna with hl | hl
    · refine ⟨n :: a :: t, List.pairwise_cons.2 ⟨fun x hx => ?_, h⟩, fun x => by simp, rfl⟩
      rcases List.mem_cons.1 hx with e | hx
      · rw [e]; exact hl
      · exact lt2_tr hl (hp.1 x hx)
    · obtain ⟨js, j1, j2, j3⟩ := ins_ex key t n hp.2 (fun hx => hn (List.mem_cons_of_mem _ hx))
      refine ⟨a :: js, List.pairwise_cons.2 ⟨fun x hx => ?_, j1⟩, fun x => ?_, by simp [j3]⟩
      · rcases (j2 x).1 hx with e | hx
        · rw [e]; exact hl
        · exact hp.1 x hx
      · rw [List.mem_cons, j2 x, List.mem_cons]
        constructor
        · rintro (e | e | e)
          · exact .inr (.inl e)
          · exact .inl e
          · exact .inr (.inr e)
        · rintro (e | e | e)
          · exact .inr (.inl e)
          · exact .inl e
          · exact .inr (.inr e)
theorem ln_up (side : Int) (zs : List O) : ∀ n, n ≤ zs.length → ∃ is : List Nat, is.Pairwise (lt2 (keyO side zs)) ∧ (∀ x, x ∈ is ↔ x < n ∧ (zs[x]!).side = side ∧ 0 < (zs[x]!).qty) ∧ is.length ≤ n
  | 0, _ => ⟨[], List.Pairwise.nil, fun x => by simp, Nat.le_refl _⟩
  | n + 1, h => by
    obtain ⟨is, i1, i2, i3⟩ := ln_up side zs n (by omega)
    by_cases hc : (zs[n]!).side = side ∧ 0 < (zs[n]!).qty
    · obtain ⟨js, j1, j2, j3⟩ := ins_ex _ is n i1 (fun hx => by have := ((i2 n).1 hx).1; omega)
      refine ⟨js, j1, fun x => ?_, by omega⟩
      rw [j2 x, i2 x]
      constructor
      · rintro (e | ⟨a, b, c⟩)
        · rw [e]; exact ⟨by omega, hc.1, hc.2⟩
        · exact ⟨by omega, b, c⟩
      · rintro ⟨a, b, c⟩
        by_cases e : x = n
        · exact .inl e
        · exact .inr ⟨by omega, b, c⟩
    · refine ⟨is, i1, fun x => ?_, by omega⟩
      rw [i2 x]
      constructor
      · rintro ⟨a, b, c⟩
        exact ⟨by omega, b, c⟩
      · rintro ⟨a, b, c⟩
        by_cases e : x = n
        · rw [e] at b c; exact absurd ⟨b, c⟩ hc
        · exact ⟨by omega, b, c⟩
theorem ln_ex (side : Int) (zs : List O) : ∃ is, Ln side zs is ∧ is.length ≤ zs.length := by
  obtain ⟨is, i1, i2, i3⟩ := ln_up side zs zs.length (Nat.le_refl _)
  exact ⟨is, ⟨i1, i2⟩, i3⟩
theorem u_go {zs : List O} {p V : Int} : ∀ (m : Nat) (os : List O) (bs ss : List Nat) (v : Int) (ts : List T), bs.length + ss.length ≤ m → TI zs p V os bs ss v ts → ∃ ts' os', U p v os ts' os' ∧ ts'.length ≤ m
  | m, os, bs, ss, v, ts, hm, h => by
    by_cases hv : 0 < v
    · obtain ⟨b, bt, s, st, rfl, rfl, hb, hs, hbs, hB1, hB2, hq0, hqv, hTn⟩ := h.step hv
      obtain ⟨q, hq⟩ : ∃ q, q = min (os[b]!).qty (os[s]!).qty := ⟨_, rfl⟩
      rw [← hq] at hTn
      simp only [List.length_cons] at hm
      cases m with
      | zero => omega
      | succ m =>
        have hl : (if (os[b]!).qty - q = 0 then bt else b :: bt).length + (if (os[s]!).qty - q = 0 then st else s :: st).length ≤ m := by
          by_cases z1 : (os[b]!).qty - q = 0
          · rw [if_pos z1]
            split <;> (try simp only [List.length_cons]) <;> omega
          · rw [if_neg z1, if_pos (by omega)]
            simp only [List.length_cons]
            omega
        obtain ⟨ts', os', hu, hlen⟩ := u_go m _ _ _ _ _ hl hTn
        refine ⟨_, os', U.fill v os b s ts' os' hv hB1 hB2 (by rw [← hq]; exact hu), by simp only [List.length_cons]; omega⟩
    · have h1 := ws_nonneg 1 p os h.nn
      have h2 := ws_nonneg 2 p os h.nn
      have h3 := h.vol
      have e : v = 0 := by omega
      rw [e]
      exact ⟨[], os, U.done os, by simp⟩
/-- A call can be traded out. -/
theorem u_ex {zs : List O} {p V : Int} (hg : Good zs) (hV : V = min (ws 1 p zs) (ws 2 p zs)) : ∃ ts os, U p V zs ts os ∧ ts.length ≤ 120 := by
  obtain ⟨bs, hb, lb⟩ := ln_ex 1 zs
  obtain ⟨ss, hs, ls⟩ := ln_ex 2 zs
  have h60 := hg.few
  exact u_go 120 zs bs ss V [] (by omega) (TI.start (nn_of hg) hb hs hV)
theorem u_nonneg {p v : Int} {os os' : List O} {ts : List T} (h : U p v os ts os') : 0 ≤ v := by
  cases h with
  | done => exact Int.le_refl 0
  | fill _ _ _ _ _ _ hv => exact Int.le_of_lt hv
theorem u_end {p v : Int} {os os' : List O} {ts : List T} (h : U p v os ts os') (hv : ¬ 0 < v) : ts = [] ∧ os' = os := by
  cases h with
  | done => exact ⟨rfl, rfl⟩
  | fill _ _ _ _ _ _ hv' => exact absurd hv' hv
theorem u_inv {p v : Int} {os os' : List O} {ts : List T} (h : U p v os ts os') (hv : 0 < v) : ∃ b s q ts', q = min (os[b]!).qty (os[s]!).qty ∧ Bst os 1 p b ∧ Bst os 2 p s ∧ b ≠ s ∧ 0 < q ∧ q ≤ v ∧ ts = trOf os b s p q :: ts' ∧ U p (v - q) (dq (dq os b q) s q) ts' os' := by
  cases h with
  | done => exact absurd hv (by decide)
  | fill _ _ b s ts' _ _ hb hs hu =>
    refine ⟨b, s, _, ts', rfl, hb, hs, fun e => ?_, ?_, ?_, rfl, hu⟩
    · have h1 := hb.sd
      have h2 := hs.sd
      rw [e, h2] at h1
      exact absurd h1 (by decide)
    · have := hb.left
      have := hs.left
      omega
    · have := u_nonneg hu
      omega
end Go.Proofs.YtabcfmpmkdoieaaDoor.cal
