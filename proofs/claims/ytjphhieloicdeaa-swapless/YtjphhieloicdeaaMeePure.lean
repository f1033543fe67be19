/- A trade, and its cells. Plain facts on who comes and who rests: what an order takes of the other side, level by level. No walk. -/
import Derived.Test.YtjphhieloicdeaaMeeOrd
import Derived.Test.YtjphhieloicdeaaSidChk
import Derived.Test.YtjphhieloicdeaaQuePure2
namespace Go.Proofs.Ytjphhieloicdeaa.mee
open Go.RowKit

/-- A trade. -/
structure T where
  maker : Int
  taker : Int
  frm : Int
  into : Int
  price : Int
  qty : Int
deriving DecidableEq, Inhabited
/-- The six cells of a trade. -/
def tV (t : T) : List Value := [.int .i64 t.maker, .int .i64 t.taker, .int .i64 t.frm, .int .i64 t.into, .int .i64 t.price, .int .i64 t.qty]
end Go.Proofs.Ytjphhieloicdeaa.mee
namespace Go.Proofs.Ytjphhieloicdeaa.mee
open Go.RowKit Go.Proofs.Ytjphhieloicdeaa.spn Go.Proofs.Ytjphhieloicdeaa.que Go.Proofs.Ytjphhieloicdeaa.sid
open Go.Proofs.Ytjphhieloicdeaa.ord (O mB chk)

/-- The trade of a fill. -/
def trd (o : O) (p : Int) (f : F) : T := if o.side = 1 then ⟨f.id, o.id, f.who, o.who, p, f.qty⟩ else ⟨f.id, o.id, o.who, f.who, p, f.qty⟩
/-- What an order takes of levels: what is left of them, the trades, what is left of it. -/
def tkl (o : O) : List L → Int → List L × List T × Int
  | [], q => ([], [], q)
  | l :: t, q => if q ≤ 0 then (l :: t, [], q) else if mB o l.price = false then (l :: t, [], q) else
      if (take q l.rests).2 = [] then ((tkl o t (q - sum (take q l.rests).1)).1, (take q l.rests).1.map (trd o l.price) ++ (tkl o t (q - sum (take q l.rests).1)).2.1, (tkl o t (q - sum (take q l.rests).1)).2.2)
      else (⟨l.price, (take q l.rests).2⟩ :: t, (take q l.rests).1.map (trd o l.price), q - sum (take q l.rests).1)
theorem tkl_zero {o : O} {ls : List L} {q : Int} (h : q ≤ 0) : tkl o ls q = (ls, [], q) := by
  cases ls with
  | nil => rfl
  | cons l t => unfold tkl; rw [if_pos h]
theorem tkl_stop {o : O} {l : L} {t : List L} {q : Int} (h : mB o l.price = false) : tkl o (l :: t) q = (l :: t, [], q) := by
  unfold tkl
  by_cases h0 : q ≤ 0
  · rw [if_pos h0]
  · rw [if_neg h0, if_pos h]
theorem tkl_gone {o : O} {l : L} {t : List L} {q : Int} (h : 0 < q) (hm : mB o l.price = true) (he : (take q l.rests).2 = []) :
    tkl o (l :: t) q = ((tkl o t (q - sum (take q l.rests).1)).1, (take q l.rests).1.map (trd o l.price) ++ (tkl o t (q - sum (take q l.rests).1)).2.1, (tkl o t (q - sum (take q l.rests).1)).2.2) := by
  rw [tkl, if_neg (by omega), if_neg (by rw [hm]; decide), if_pos he]
theorem tkl_last {o : O} {l : L} {t : List L} {q : Int} (h : 0 < q) (hm : mB o l.price = true) (he : ¬ (take q l.rests).2 = []) :
    tkl o (l :: t) q = (⟨l.price, (take q l.rests).2⟩ :: t, (take q l.rests).1.map (trd o l.price), q - sum (take q l.rests).1) := by
  rw [tkl, if_neg (by omega), if_neg (by rw [hm]; decide), if_neg he]

theorem sum_append (a b : List F) : sum (a ++ b) = sum a + sum b := by
  induction a with
  | nil => simp [sum]
  | cons x t ih => simp only [List.cons_append, sum, ih]; omega
theorem sum_take (fs : List F) (k : Nat) (hk : k < fs.length) : sum (fs.take (k + 1)) = sum (fs.take k) + fs[k]!.qty := by
  rw [List.take_succ_eq_append_getElem hk, sum_append, getE _ _ hk]; simp only [sum]; omega
theorem sum_len (fs : List F) (h : ∀ f ∈ fs, 1 ≤ f.qty) : (fs.length : Int) ≤ sum fs := by
  induction fs with
  | nil => simp [sum]
  | cons x t ih =>
    have h1 := h x (by simp)
    have h2 := ih (fun f hf => h f (by simp [hf]))
    simp only [sum, List.length_cons]; omega
theorem sum_pos (fs : List F) (h : ∀ f ∈ fs, 1 ≤ f.qty) : 0 ≤ sum fs := by have := sum_len fs h; omega
theorem sum_take_le (fs : List F) (k : Nat) (h : ∀ f ∈ fs, 1 ≤ f.qty) : 0 ≤ sum (fs.take k) ∧ sum (fs.take k) ≤ sum fs := by
  have h1 := sum_pos (fs.take k) (fun f hf => h f (List.mem_of_mem_take hf))
  have h2 := sum_pos (fs.drop k) (fun f hf => h f (List.mem_of_mem_drop hf))
  have h3 := sum_append (fs.take k) (fs.drop k)
  rw [List.take_append_drop] at h3
  omega
/-- What is taken of a queue that is right. -/
theorem take_all {q : Int} {zs : List R} (h0 : qchk zs = 0) (h1 : 1 ≤ q) : sum (take q zs).1 ≤ q ∧ 0 ≤ sum (take q zs).1 ∧ ((take q zs).1.length : Int) ≤ sum (take q zs).1 ∧ qchk (take q zs).2 = 0 ∧ (sum (take q zs).1 < q → (take q zs).2 = []) ∧
    (∀ f ∈ (take q zs).1, 1 ≤ f.qty ∧ f.qty ≤ q) ∧ sum (take q zs).1 + tot (take q zs).2 = tot zs := by
  obtain ⟨h60, hg⟩ := (qchk_zero zs).1 h0
  obtain ⟨f1, f2, f3, f4, f5, f6, f7, f8⟩ := take_facts q.toNat q zs (by omega) hg (by omega)
  exact ⟨f4, f8, sum_len _ (fun f hf => (f5 f hf).1), (qchk_zero _).2 ⟨by omega, f1⟩, f6, f5, f3⟩
/-- Where something is left of the rests nothing is left of what was wanted. -/
theorem take_last {q : Int} {zs : List R} (h0 : qchk zs = 0) (h1 : 1 ≤ q) (he : ¬ (take q zs).2 = []) : q - sum (take q zs).1 = 0 := by
  obtain ⟨a, b, c, d, e, f⟩ := take_all h0 h1
  by_cases h : sum (take q zs).1 < q
  · exact absurd (e h) he
  · omega
end Go.Proofs.Ytjphhieloicdeaa.mee
