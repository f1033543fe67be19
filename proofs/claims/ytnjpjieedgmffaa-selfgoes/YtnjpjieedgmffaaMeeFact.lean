/- Plain facts on what an order takes of levels that are right. No walk. -/
import Derived.Test.YtnjpjieedgmffaaMeePure
import Derived.Test.YtnjpjieedgmffaaSidPut
namespace Go.Proofs.Ytnjpjieedgmffaa.mee
open Go.RowKit Go.Proofs.Ytnjpjieedgmffaa.spn Go.Proofs.Ytnjpjieedgmffaa.que Go.Proofs.Ytnjpjieedgmffaa.sid
open Go.Proofs.Ytnjpjieedgmffaa.ord (O mB chk)
open Go.Proofs.Ytnjpjieedgmffaa.tickP (priceB sideB betOk betR)

def sumT : List T → Int
  | [] => 0
  | t :: r => t.qty + sumT r
theorem sumT_append (a b : List T) : sumT (a ++ b) = sumT a + sumT b := by
  induction a with
  | nil => simp [sumT]
  | cons x t ih => simp only [List.cons_append, sumT, ih]; omega
theorem sumT_map (o : O) (p : Int) (fs : List F) : sumT (fs.map (trd o p)) = sum fs := by
  induction fs with
  | nil => rfl
  | cons x t ih =>
    simp only [List.map_cons, sumT, sum, ih]
    have : (trd o p x).qty = x.qty := by unfold trd; split <;> rfl
    rw [this]
def totL : List L → Int
  | [] => 0
  | l :: t => tot l.rests + totL t
theorem trd_facts (o : O) (p : Int) (f : F) : (trd o p f).taker = o.id ∧ (trd o p f).price = p ∧ (trd o p f).qty = f.qty ∧ (trd o p f).maker = f.id := by
  unfold trd; split <;> exact ⟨rfl, rfl, rfl, rfl⟩

theorem tkl_step {o : O} {l : L} {t : List L} {q : Int} (h : 0 < q) (hm : mB o l.price = true) (hl : lchk l = 0) :
    (((take q l.rests).2 = [] ∧ tkl o (l :: t) q = ((tkl o t (q - sum (take q l.rests).1)).1, (take q l.rests).1.map (trd o l.price) ++ (tkl o t (q - sum (take q l.rests).1)).2.1, (tkl o t (q - sum (take q l.rests).1)).2.2)) ∨
     (¬ (take q l.rests).2 = [] ∧ q - sum (take q l.rests).1 = 0 ∧ tkl o (l :: t) q = (⟨l.price, (take q l.rests).2⟩ :: t, (take q l.rests).1.map (trd o l.price), q - sum (take q l.rests).1))) := by
  by_cases he : (take q l.rests).2 = []
  · exact .inl ⟨he, tkl_gone h hm he⟩
  · exact .inr ⟨he, take_last (lchk_zero hl).2.2 (by omega) he, tkl_last h hm he⟩
theorem tkl_done {o : O} {l : L} {t : List L} {q : Int} (h : ¬ (0 < q ∧ mB o l.price = true)) : tkl o (l :: t) q = (l :: t, [], q) := by
  by_cases hq : 0 < q
  · exact tkl_stop (by
      cases hm : mB o l.price with
      | false => rfl
      | true => exact absurd ⟨hq, hm⟩ h)
  · exact tkl_zero (by omega)

/-- How much. -/
theorem tkl_sum {o : O} : ∀ (ls : List L) (q : Int), 0 ≤ q → (∀ l ∈ ls, lchk l = 0) → sumT (tkl o ls q).2.1 + (tkl o ls q).2.2 = q ∧ 0 ≤ (tkl o ls q).2.2 ∧ 0 ≤ sumT (tkl o ls q).2.1 ∧ ((tkl o ls q).2.1.length : Int) ≤ sumT (tkl o ls q).2.1 ∧ totL (tkl o ls q).1 + sumT (tkl o ls q).2.1 = totL ls := by
  intro ls
  induction ls with
  | nil => intro q h _; simp [tkl, sumT]; exact h
  | cons l t ih =>
    intro q h hg
    by_cases hc : 0 < q ∧ mB o l.price = true
    · have hl := hg l (by simp)
      obtain ⟨f1, f2, f3, f4, f5, f6, f7⟩ := take_all (lchk_zero hl).2.2 (q := q) (by omega)
      rcases tkl_step (t := t) hc.1 hc.2 hl with ⟨he, e⟩ | ⟨he, hz, e⟩
      · obtain ⟨i1, i2, i3, i4, i5⟩ := ih (q - sum (take q l.rests).1) (by omega) (fun x hx => hg x (by simp [hx]))
        rw [e]
        simp only [sumT_append, sumT_map, List.length_append, List.length_map, totL]
        rw [he] at f7
        simp only [tot] at f7
        refine ⟨by omega, i2, by omega, by omega, by omega⟩
      · rw [e]
        simp only [sumT_map, List.length_map, totL]
        refine ⟨by omega, by omega, f2, f3, by omega⟩
    · rw [tkl_done hc]
      simp [sumT]
      exact h
/-- Each trade. -/
theorem tkl_each {o : O} : ∀ (ls : List L) (q : Int), 0 ≤ q → (∀ l ∈ ls, lchk l = 0) → ∀ x ∈ (tkl o ls q).2.1, x.taker = o.id ∧ 1 ≤ x.qty ∧ x.qty ≤ q ∧ mB o x.price = true ∧ ∃ l ∈ ls, l.price = x.price := by
  intro ls
  induction ls with
  | nil => intro q _ _ x hx; simp [tkl] at hx
  | cons l t ih =>
    intro q h hg x hx
    by_cases hc : 0 < q ∧ mB o l.price = true
    · have hl := hg l (by simp)
      obtain ⟨f1, f2, f3, f4, f5, f6, f7⟩ := take_all (lchk_zero hl).2.2 (q := q) (by omega)
      have hfs : ∀ y ∈ (take q l.rests).1.map (trd o l.price), y.taker = o.id ∧ 1 ≤ y.qty ∧ y.qty ≤ q ∧ mB o y.price = true ∧ ∃ l' ∈ l :: t, l'.price = y.price := fun y hy => by
        obtain ⟨f, hf, rfl⟩ := List.mem_map.1 hy
        obtain ⟨t1, t2, t3, -⟩ := trd_facts o l.price f
        have := f6 f hf
        exact ⟨t1, by rw [t3]; exact this.1, by rw [t3]; exact this.2, by rw [t2]; exact hc.2, l, by simp, t2.symm⟩
      rcases tkl_step (t := t) hc.1 hc.2 hl with ⟨he, e⟩ | ⟨he, hz, e⟩
      · rw [e] at hx
        rcases List.mem_append.1 hx with hx | hx
        · exact hfs x hx
        · obtain ⟨a1, a2, a3, a4, l', hl', a5⟩ := ih _ (by omega) (fun y hy => hg y (by simp [hy])) x hx
          exact ⟨a1, a2, by omega, a4, l', by simp [hl'], a5⟩
      · rw [e] at hx
        exact hfs x hx
    · rw [tkl_done hc] at hx; simp at hx
/-- What is left meets nothing any more. -/
theorem tkl_rest {o : O} : ∀ (ls : List L) (q : Int), 0 ≤ q → (∀ l ∈ ls, lchk l = 0) → ¬ (tkl o ls q).2.2 = 0 → ∀ q', tkl o (tkl o ls q).1 q' = ((tkl o ls q).1, [], q') := by
  intro ls
  induction ls with
  | nil => intro q _ _ _ q'; rfl
  | cons l t ih =>
    intro q h hg hn q'
    by_cases hc : 0 < q ∧ mB o l.price = true
    · have hl := hg l (by simp)
      obtain ⟨f1, f2, f3, f4, f5, f6, f7⟩ := take_all (lchk_zero hl).2.2 (q := q) (by omega)
      rcases tkl_step (t := t) hc.1 hc.2 hl with ⟨he, e⟩ | ⟨he, hz, e⟩
      · rw [e] at hn ⊢
        exact ih _ (by omega) (fun y hy => hg y (by simp [hy])) hn q'
      · rw [e] at hn
        exact absurd hz hn
    · rw [tkl_done hc] at hn ⊢
      simp only [] at hn ⊢
      exact tkl_done (fun h2 => hc ⟨by omega, h2.2⟩)

/-- The prices of levels, one behind the other. -/
def ahd (s : Int) (a b : Int) : Prop := if s = 1 then b < a else a < b
theorem lead_ahd {s a b : Int} (hs : sideB s = true) (h : leadB s a b = true) : ahd s a b := by
  simp [sideB] at hs
  unfold leadB betR at h
  unfold ahd
  rcases hs with rfl | rfl
  · have e : wrap64 (3 - 1) = 2 := by unfold wrap64; omega
    rw [e] at h
    simp at h
    simp
    exact h.2
  · have e : wrap64 (3 - 2) = 1 := by unfold wrap64; omega
    rw [e] at h
    simp at h
    simp
    exact h.2
theorem ahd_trans {s a b c : Int} (h1 : ahd s a b) (h2 : ahd s b c) : ahd s a c := by
  unfold ahd at *
  split at h1 <;> simp_all <;> omega
theorem sgo_ahd {s : Int} (hs : sideB s = true) : ∀ (ls : List L) (prev : Option Int), sgo s prev ls = 0 → (ls.Pairwise fun a b => ahd s a.price b.price) ∧ ∀ x, prev = some x → ∀ l ∈ ls, ahd s x l.price := by
  intro ls
  induction ls with
  | nil => intro prev _; exact ⟨List.Pairwise.nil, fun x _ l hl => by cases hl⟩
  | cons l t ih =>
    intro prev h
    obtain ⟨h1, h2, h3⟩ := sgo_cons h
    obtain ⟨i1, i2⟩ := ih (some l.price) h3
    refine ⟨List.pairwise_cons.2 ⟨fun b hb => i2 _ rfl b hb, i1⟩, fun x hx b hb => ?_⟩
    subst hx
    have hxl : ahd s x l.price := lead_ahd hs h2
    rcases List.mem_cons.1 hb with rfl | hb
    · exact hxl
    · exact ahd_trans hxl (i2 _ rfl b hb)
/-- From trade to trade no better. -/
theorem tkl_sorted {o : O} {s : Int} : ∀ (ls : List L) (q : Int), 0 ≤ q → (∀ l ∈ ls, lchk l = 0) → (ls.Pairwise fun a b => ahd s a.price b.price) → (tkl o ls q).2.1.Pairwise fun a b => ¬ ahd s b.price a.price := by
  intro ls
  induction ls with
  | nil => intro q _ _ _; exact List.Pairwise.nil
  | cons l t ih =>
    intro q h hg hp
    obtain ⟨p1, p2⟩ := List.pairwise_cons.1 hp
    by_cases hc : 0 < q ∧ mB o l.price = true
    · have hl := hg l (by simp)
      obtain ⟨f1, f2, f3, f4, f5, f6, f7⟩ := take_all (lchk_zero hl).2.2 (q := q) (by omega)
      have hfs : ((take q l.rests).1.map (trd o l.price)).Pairwise fun a b => ¬ ahd s b.price a.price := by
        rw [List.pairwise_map]
        refine List.Pairwise.imp_of_mem ?_ (List.pairwise_of_forall (R := fun _ _ => True) (fun _ _ => trivial))
        intro a b _ _ _
        rw [(trd_facts o l.price a).2.1, (trd_facts o l.price b).2.1]
        unfold ahd; split <;> omega
      rcases tkl_step (t := t) hc.1 hc.2 hl with ⟨he, e⟩ | ⟨he, hz, e⟩
      · rw [e]
        refine List.pairwise_append.2 ⟨hfs, ih _ (by omega) (fun y hy => hg y (by simp [hy])) p2, fun a ha b hb => ?_⟩
        obtain ⟨f, hf, rfl⟩ := List.mem_map.1 ha
        obtain ⟨-, -, -, -, l', hl', e5⟩ := tkl_each t _ (by omega) (fun y hy => hg y (by simp [hy])) b hb
        rw [(trd_facts o l.price f).2.1, ← e5]
        have := p1 l' hl'
        unfold ahd at *
        split at this <;> simp_all <;> omega
      · rw [e]; exact hfs
    · rw [tkl_done hc]; exact List.Pairwise.nil
end Go.Proofs.Ytnjpjieedgmffaa.mee
