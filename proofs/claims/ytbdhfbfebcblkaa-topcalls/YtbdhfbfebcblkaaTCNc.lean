/- Plain facts: what a call leaves is not crossed. -/
import Derived.Test.YtbdhfbfebcblkaaCalFact
namespace Go.Proofs.Ytbdhfbfebcblkaa.cal
open Go.Proofs.Ytbdhfbfebcblkaa.ord
open Go.Proofs.Ytbdhfbfebcblkaa.wak (getE)

def rsum (f : Nat → Int) : Nat → Int
  | 0 => 0
  | n + 1 => rsum f n + f n
theorem rsum_cong {f g : Nat → Int} : ∀ (n : Nat), (∀ i, i < n → f i = g i) → rsum f n = rsum g n
  | 0, _ => rfl
  | n + 1, h => by rw [rsum, rsum, rsum_cong n (fun i hi => h i (by omega)), h n (by omega)]
theorem rsum_sub (f g : Nat → Int) : ∀ (n : Nat), rsum f n - rsum g n = rsum (fun i => f i - g i) n
  | 0 => rfl
  | n + 1 => by rw [rsum, rsum, rsum, ← rsum_sub f g n]; omega
theorem rsum_le {f g : Nat → Int} : ∀ (n : Nat), (∀ i, i < n → f i ≤ g i) → rsum f n ≤ rsum g n
  | 0, _ => Int.le_refl _
  | n + 1, h => by
    rw [rsum, rsum]
    have := rsum_le n (fun i hi => h i (by omega))
    have := h n (by omega)
    omega
/-- One place more. -/
theorem rsum_one {f g : Nat → Int} {x : Int} {b : Nat} : ∀ (n : Nat), b < n → (∀ i, i < n → f i ≤ g i) → f b + x ≤ g b → rsum f n + x ≤ rsum g n
  | 0, h, _, _ => by omega
  | n + 1, hb, h, hx => by
    rw [rsum, rsum]
    by_cases e : b = n
    · subst e
      have := rsum_le b (fun i hi => h i (by omega))
      omega
    · have := rsum_one n (by omega) (fun i hi => h i (by omega)) hx
      have := h n (by omega)
      omega

def wsI (side p : Int) (os : List O) (i : Nat) : Int := if (os[i]!).side = side ∧ at_ os[i]! p = true then (os[i]!).qty else 0
theorem ws_rsum (side p : Int) (os : List O) : ∀ k, k ≤ os.length → ws side p (os.take k) = rsum (wsI side p os) k
  | 0, _ => by simp [ws, rsum]
  | k + 1, h => by rw [ws_take side p os k (by omega), ws_rsum side p os k (by omega), rsum]; rfl
theorem ws_sum (side p : Int) (os : List O) : ws side p os = rsum (wsI side p os) os.length := by
  have := ws_rsum side p os os.length (Nat.le_refl _)
  rwa [List.take_length] at this

/-- All that a side wants. -/
def sS (side : Int) : List O → Int
  | [] => 0
  | o :: t => (if o.side = side then o.qty else 0) + sS side t
theorem sS_append (side : Int) (a b : List O) : sS side (a ++ b) = sS side a + sS side b := by
  induction a with
  | nil => simp [sS]
  | cons o t ih => rw [List.cons_append, sS, sS, ih]; omega
def sI (side : Int) (os : List O) (i : Nat) : Int := if (os[i]!).side = side then (os[i]!).qty else 0
theorem sS_rsum (side : Int) (os : List O) : ∀ k, k ≤ os.length → sS side (os.take k) = rsum (sI side os) k
  | 0, _ => by simp [sS, rsum]
  | k + 1, h => by
    rw [List.take_succ_eq_append_getElem (by omega), sS_append, sS_rsum side os k (by omega), rsum]
    unfold sI
    rw [getE os k (by omega)]
    simp [sS]
theorem sS_sum (side : Int) (os : List O) : sS side os = rsum (sI side os) os.length := by
  have := sS_rsum side os os.length (Nat.le_refl _)
  rwa [List.take_length] at this
theorem sS_set (side : Int) : ∀ (os : List O) (i : Nat) (r : Int), i < os.length → sS side (os.set i (wq os[i]! r)) = sS side os + (if (os[i]!).side = side then r - (os[i]!).qty else 0)
  | [], i, r, h => by simp at h
  | o :: t, 0, r, _ => by
    have e : (o :: t)[0]! = o := rfl
    rw [e, List.set_cons_zero, sS, sS]
    have e2 : (wq o r).side = o.side := rfl
    have e4 : (wq o r).qty = r := rfl
    rw [e2, e4]
    split <;> omega
  | o :: t, i + 1, r, h => by
    have hi : i < t.length := by simpa using h
    have e : (o :: t)[i + 1]! = t[i]! := rfl
    rw [e, List.set_cons_succ, sS, sS, sS_set side t i r hi]
    omega
theorem sS_dq (side : Int) (os : List O) (i : Nat) (q : Int) (h : i < os.length) : sS side (dq os i q) = sS side os - (if (os[i]!).side = side then q else 0) := by
  unfold dq
  rw [sS_set side os i _ h]
  split <;> omega

/-- Who stands ahead of one who traded has nothing left. -/
def Ord (zs os : List O) : Prop := ∀ side, (side = 1 ∨ side = 2) → ∀ i j, i < zs.length → j < zs.length → (zs[i]!).side = side → (zs[j]!).side = side → lt2 (keyO side zs) i j → (os[j]!).qty ≠ (zs[j]!).qty → (os[i]!).qty = 0
theorem key_sh {zs os : List O} (h : Sh zs os) (side : Int) : keyO side os = keyO side zs := by
  funext x
  obtain ⟨r, e⟩ := h.2 x
  unfold keyO
  rw [e]
  rfl
theorem ord_dq {zs os : List O} {side p : Int} {b : Nat} {q : Int} (hsd : side = 1 ∨ side = 2) (hs : Sh zs os) (hn : Nn os) (ho : Ord zs os) (hb : Bst os side p b) : Ord zs (dq os b q) := by
  have hside : ∀ x : Nat, (os[x]!).side = (zs[x]!).side := fun x => by obtain ⟨r, e⟩ := hs.2 x; rw [e]; rfl
  have hl := hs.1
  intro sd hsd2 i j hi hj hi1 hj1 hlt hne
  by_cases hib : i = b
  · subst hib
    by_cases hjb : j = i
    · subst hjb
      exact (lt2_not hlt hlt).elim
    · rw [dq_ne os i q j hjb] at hne
      have := ho sd hsd2 i j hi hj hi1 hj1 hlt hne
      have := hb.left
      omega
  · rw [dq_ne os b q i hib]
    by_cases hjb : j = b
    · subst hjb
      have e : sd = side := by rw [← hj1, ← hside j, hb.sd]
      subst e
      have h0 := (hn i).1
      by_cases hz : (os[i]!).qty = 0
      · exact hz
      · exfalso
        have hk := key_sh hs sd
        have hm : at_ os[i]! p = true := at_mono hsd (by rw [hside i]; exact hi1) hb.sd (by
          rw [hk]
          rcases hlt with h | h <;> omega) hb.may
        rcases hb.first i (by omega) (by rw [hside i]; exact hi1) (by omega) hm with e | e
        · exact hib e
        · rw [hk] at e
          exact lt2_not hlt e
    · rw [dq_ne os b q j hjb] at hne
      exact ho sd hsd2 i j hi hj hi1 hj1 hlt hne
theorem u_ord {zs : List O} {p : Int} {v : Int} {os : List O} {ts : List T} {os' : List O} (h : U p v os ts os') : Sh zs os → Nn os → Ord zs os → Sh zs os' ∧ Ord zs os' ∧ sS 1 os - sS 1 os' = v ∧ sS 2 os - sS 2 os' = v := by
  induction h with
  | done os => intro h1 _ h3; exact ⟨h1, h3, by omega, by omega⟩
  | fill v os b s ts os' hv hb hs _ ih =>
    intro hsh hnn hord
    obtain ⟨q, hq⟩ : ∃ q, q = min (os[b]!).qty (os[s]!).qty := ⟨_, rfl⟩
    rw [← hq] at ih
    have hne : b ≠ s := fun e => by
      have h1 := hb.sd
      have h2 := hs.sd
      rw [e, h2] at h1
      exact absurd h1 (by decide)
    have hbl := hb.left
    have hsl := hs.left
    have es : (dq os b q)[s]! = os[s]! := dq_ne os b q s (fun e => hne e.symm)
    have hn1 := nn_dq hnn b q (by omega) (by omega)
    have hsh1 := sh_dq hsh b q
    have hs1 : Bst (dq os b q) 2 p s := by
      refine ⟨by rw [dq_len]; exact hs.lt, by rw [es]; exact hs.sd, by rw [es]; exact hs.left, by rw [es]; exact hs.may, fun j j1 j2 j3 j4 => ?_⟩
      rw [dq_len] at j1
      rw [dq_side] at j2
      rw [dq_atp] at j4
      have hjb : j ≠ b := fun e => by rw [e, hb.sd] at j2; exact absurd j2 (by decide)
      rw [dq_ne os b q j hjb] at j3
      rw [keyO_dq]
      exact hs.first j j1 j2 j3 j4
    obtain ⟨k1, k2, k3, k4⟩ := ih (sh_dq hsh1 s q) (nn_dq hn1 s q (by omega) (by rw [es]; omega)) (ord_dq (.inr rfl) hsh1 hn1 (ord_dq (.inl rfl) hsh hnn hord hb) hs1)
    refine ⟨k1, k2, ?_, ?_⟩
    · rw [sS_dq 1 _ s q (by rw [dq_len]; exact hs.lt), sS_dq 1 os b q hb.lt, es, hb.sd, hs.sd, if_pos rfl, if_neg (by decide)] at k3
      omega
    · rw [sS_dq 2 _ s q (by rw [dq_len]; exact hs.lt), sS_dq 2 os b q hb.lt, es, hb.sd, hs.sd, if_neg (by decide), if_pos rfl] at k4
      omega
theorem ord_refl (zs : List O) : Ord zs zs := fun _ _ _ _ _ _ _ _ _ h => (h rfl).elim

/-- Where all who traded may trade at q, what was traded is what is wanted less there. -/
theorem traded_at {zs os : List O} {side q V : Int} (hs : Sh zs os) (hV : sS side zs - sS side os = V) (h : ∀ j, j < zs.length → (zs[j]!).side = side → at_ zs[j]! q = false → (os[j]!).qty = (zs[j]!).qty) : ws side q zs - ws side q os = V := by
  rw [ws_sum, ws_sum, ← hV, sS_sum, sS_sum, hs.1, rsum_sub, rsum_sub]
  refine rsum_cong _ fun i hi => ?_
  obtain ⟨r, e⟩ := hs.2 i
  have e1 : (os[i]!).side = (zs[i]!).side := by rw [e]; rfl
  have e2 : at_ os[i]! q = at_ zs[i]! q := by rw [e]; rfl
  unfold wsI sI
  rw [e1, e2]
  by_cases c1 : (zs[i]!).side = side
  · cases c2 : at_ zs[i]! q with
    | true => rw [if_pos ⟨c1, rfl⟩, if_pos ⟨c1, rfl⟩, if_pos c1, if_pos c1]
    | false =>
      rw [if_neg (fun x => absurd x.2 (by decide)), if_neg (fun x => absurd x.2 (by decide)), if_pos c1, if_pos c1, h i hi c1 c2]
      omega
  · rw [if_neg (fun x => c1 x.1), if_neg (fun x => c1 x.1), if_neg c1, if_neg c1]

theorem at_buy {o : O} (h : o.side = 1) (p : Int) : at_ o p = decide (p ≤ o.price) := by unfold at_; rw [if_pos h]
theorem at_sell {o : O} (h : o.side = 2) (p : Int) : at_ o p = decide (o.price ≤ p) := by unfold at_; rw [if_neg (by rw [h]; decide)]

/-- What is left is not crossed. -/
theorem left_apart {zs os : List O} {P V : Int} {ts : List T} (hg : Good zs) (hP : V = min (ws 1 P zs) (ws 2 P zs)) (hmax : ∀ o ∈ zs, (ofAt zs o.price).vol ≤ V) (hU : U P V zs ts os) (hnn : Nn os)
    (b s : Nat) (hb : b < zs.length) (hs : s < zs.length) (hb1 : (zs[b]!).side = 1) (hs1 : (zs[s]!).side = 2) (hbq : 0 < (os[b]!).qty) (hsq : 0 < (os[s]!).qty) : (zs[b]!).price < (zs[s]!).price := by
  have hnz := nn_of hg
  obtain ⟨hsh, hord, hv1, hv2⟩ := u_ord hU (Sh.refl zs) hnz (ord_refl zs)
  obtain ⟨-, hmin, -, -⟩ := u_facts (zs := zs) hU (Sh.refl zs) hnz hP
  have hfine := fun i (hi : i < zs.length) => hg.fine zs[i]! (by rw [getE zs i hi]; exact List.getElem_mem _)
  have hsd : ∀ x : Nat, (os[x]!).side = (zs[x]!).side := fun x => by obtain ⟨r, e⟩ := hsh.2 x; rw [e]; rfl
  have hat : ∀ (x : Nat) (y : Int), at_ os[x]! y = at_ zs[x]! y := fun x y => by obtain ⟨r, e⟩ := hsh.2 x; rw [e]; rfl
  have hlen := hsh.1
  have n1 := ws_nonneg 1 P os hnn
  have n2 := ws_nonneg 2 P os hnn
  have qb := (hfine b hb).bounds
  have qs := (hfine s hs).bounds
  by_cases hc : (zs[b]!).price < (zs[s]!).price
  · exact hc
  exfalso
  by_cases h0 : ws 1 P os = 0
  · -- all buys at P have traded
    have hbp : (zs[b]!).price < P := by
      by_cases h : P ≤ (zs[b]!).price
      · have := ws_ge 1 P os b hnn (by omega) (by rw [hsd]; exact hb1) (by rw [hat, at_buy hb1]; exact decide_eq_true h)
        omega
      · omega
    obtain ⟨q, hq⟩ : ∃ q, q = (zs[b]!).price := ⟨_, rfl⟩
    have hm := hmax zs[b]! (by rw [getE zs b hb]; exact List.getElem_mem _)
    rw [← hq] at hm hbp hc
    have hm' : min (ws 1 q zs) (ws 2 q zs) ≤ V := hm
    have hmore : ws 1 P zs + (zs[b]!).qty ≤ ws 1 q zs := by
      rw [ws_sum, ws_sum]
      refine rsum_one zs.length hb (fun i hi => ?_) ?_
      · unfold wsI
        by_cases c1 : (zs[i]!).side = 1
        · rw [at_buy c1, at_buy c1]
          by_cases c2 : P ≤ (zs[i]!).price
          · rw [if_pos ⟨c1, decide_eq_true c2⟩, if_pos ⟨c1, decide_eq_true (by omega)⟩]; exact Int.le_refl _
          · rw [if_neg (fun x => c2 (of_decide_eq_true x.2))]
            have := (hfine i hi).bounds
            split <;> omega
        · rw [if_neg (fun x => c1 x.1), if_neg (fun x => c1 x.1)]; exact Int.le_refl _
      · unfold wsI
        rw [at_buy hb1, at_buy hb1, if_neg (fun x => by have := of_decide_eq_true x.2; omega), if_pos ⟨hb1, decide_eq_true (by omega)⟩]
        omega
    have ht := traded_at (q := q) hsh hv2 (fun j hj hj1 hjq => by
      by_cases hz : (os[j]!).qty = (zs[j]!).qty
      · exact hz
      · exfalso
        rw [at_sell hj1] at hjq
        have hjp := of_decide_eq_false hjq
        have hl : lt2 (keyO 2 zs) s j := by
          left
          unfold keyO
          rw [if_neg (by decide), if_neg (by decide)]
          omega
        have := hord 2 (.inr rfl) s j hs hj hs1 hj1 hl hz
        omega)
    have hge := ws_ge 2 q os s hnn (by omega) (by rw [hsd]; exact hs1) (by rw [hat, at_sell hs1]; exact decide_eq_true (by omega))
    omega
  · -- all sells at P have traded
    have h2 : ws 2 P os = 0 := by omega
    have hsp : P < (zs[s]!).price := by
      by_cases h : (zs[s]!).price ≤ P
      · have := ws_ge 2 P os s hnn (by omega) (by rw [hsd]; exact hs1) (by rw [hat, at_sell hs1]; exact decide_eq_true h)
        omega
      · omega
    obtain ⟨q, hq⟩ : ∃ q, q = (zs[s]!).price := ⟨_, rfl⟩
    have hm := hmax zs[s]! (by rw [getE zs s hs]; exact List.getElem_mem _)
    rw [← hq] at hm hsp hc
    have hm' : min (ws 1 q zs) (ws 2 q zs) ≤ V := hm
    have hmore : ws 2 P zs + (zs[s]!).qty ≤ ws 2 q zs := by
      rw [ws_sum, ws_sum]
      refine rsum_one zs.length hs (fun i hi => ?_) ?_
      · unfold wsI
        by_cases c1 : (zs[i]!).side = 2
        · rw [at_sell c1, at_sell c1]
          by_cases c2 : (zs[i]!).price ≤ P
          · rw [if_pos ⟨c1, decide_eq_true c2⟩, if_pos ⟨c1, decide_eq_true (by omega)⟩]; exact Int.le_refl _
          · rw [if_neg (fun x => c2 (of_decide_eq_true x.2))]
            have := (hfine i hi).bounds
            split <;> omega
        · rw [if_neg (fun x => c1 x.1), if_neg (fun x => c1 x.1)]; exact Int.le_refl _
      · unfold wsI
        rw [at_sell hs1, at_sell hs1, if_neg (fun x => by have := of_decide_eq_true x.2; omega), if_pos ⟨hs1, decide_eq_true (by omega)⟩]
        omega
    have ht := traded_at (q := q) hsh hv1 (fun j hj hj1 hjq => by
      by_cases hz : (os[j]!).qty = (zs[j]!).qty
      · exact hz
      · exfalso
        rw [at_buy hj1] at hjq
        have hjp := of_decide_eq_false hjq
        have hl : lt2 (keyO 1 zs) b j := by
          left
          unfold keyO
          rw [if_pos rfl, if_pos rfl]
          omega
        have := hord 1 (.inl rfl) b j hb hj hb1 hj1 hl hz
        omega)
    have hge := ws_ge 1 q os b hnn (by omega) (by rw [hsd]; exact hb1) (by rw [hat, at_buy hb1]; exact decide_eq_true (by omega))
    omega
/-- The rests of a call, by pairs. -/
theorem rest_apart {zs os : List O} {P V : Int} {ts : List T} (hg : Good zs) (hP : V = min (ws 1 P zs) (ws 2 P zs)) (hmax : ∀ o ∈ zs, (ofAt zs o.price).vol ≤ V) (hU : U P V zs ts os) (hsh : Sh zs os) (hnn : Nn os) :
    ∀ a ∈ os.filter nz, ∀ c ∈ os.filter nz, a.side = 1 → c.side = 2 → a.price < c.price := by
  intro a ha c hc ha1 hc1
  obtain ⟨ha, haz⟩ := List.mem_filter.1 ha
  obtain ⟨hc, hcz⟩ := List.mem_filter.1 hc
  obtain ⟨i, hi, rfl⟩ := List.mem_iff_getElem.1 ha
  obtain ⟨j, hj, rfl⟩ := List.mem_iff_getElem.1 hc
  obtain ⟨r, e⟩ := hsh.2 i
  obtain ⟨r', e'⟩ := hsh.2 j
  have hl := hsh.1
  have q1 : ¬ os[i].qty = 0 := of_decide_eq_true haz
  have q2 : ¬ os[j].qty = 0 := of_decide_eq_true hcz
  have z1 := hnn i
  have z2 := hnn j
  have g1 := getE os i hi
  have g2 := getE os j hj
  have s1 : (zs[i]!).side = 1 := by rw [g1] at e; rw [e] at ha1; exact ha1
  have s2 : (zs[j]!).side = 2 := by rw [g2] at e'; rw [e'] at hc1; exact hc1
  have h := left_apart hg hP hmax hU hnn i j (by omega) (by omega) s1 s2 (by rw [g1] at z1 ⊢; omega) (by rw [g2] at z2 ⊢; omega)
  rw [g1] at e
  rw [g2] at e'
  rw [e, e']
  exact h
end Go.Proofs.Ytbdhfbfebcblkaa.cal
