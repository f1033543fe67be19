/- Contracts over this seat's translation: queue.Take at every queue and number; pitsame.Rests at two queues that are the same. -/
import Derived.Test.YtefolhkecgcigaaDoorQueTake2
import Derived.Deep.QuietTactic
import Derived.BigQuiet
namespace Go.Proofs.YtefolhkecgcigaaDoor.que
open Go.RowKit Go.Proofs.YtefolhkecgcigaaDoor.spn

theorem take_bad (v : Value) (zs : List R) (n : Int) (w : World) (h : SL w v zs) (h0 : ¬ qchk zs = 0) :
    Calls Tryd.prog 17 #[v, .int .i64 n] w fun e w' => e = .returned (.tuple #[.slice none 0 0, .slice none 0 0, errV (qchk zs)]) ∧ Below w.heap.size w w' := by
  have hcon := qcheck_any v zs w h
  rw [errV_of h0] at hcon ⊢
  generalize qchk zs = k at *
  clear h
  go_enter Tryd.func17, Tryd.ntmps17
  go_wp2_with fail
  refine hcon.mono ?_
  rintro e w1 ⟨rfl, hb1⟩
  clear hcon
  go_wp2_with fail
  go_ret3
  exact ⟨rfl, hb1⟩

theorem qtyB' (n : Int) (h : ¬ (1 ≤ n ∧ n ≤ 10000)) : [(n, 1, 10000)].any spanB = true := by
  simp [spanB]; omega

theorem take_range (v : Value) (zs : List R) (n : Int) (w : World) (h : SL w v zs) (h0 : qchk zs = 0) (h1 : ¬ (1 ≤ n ∧ n ≤ 10000)) :
    Calls Tryd.prog 17 #[v, .int .i64 n] w fun e w' => e = .returned (.tuple #[.slice none 0 0, .slice none 0 0, errV 1]) ∧ Below w.heap.size w w' := by
  have hcon := qcheck_any v zs w h
  rw [h0, errV_zero] at hcon
  clear h h0
  go_enter Tryd.func17, Tryd.ntmps17
  go_wp2_with fail
  refine hcon.mono ?_
  rintro e w1 ⟨rfl, hb1⟩
  clear hcon
  go_wp2_with fail
  refine (qty_any n w1).mono ?_
  rintro e w2 ⟨rfl, hb2⟩
  go_wp2_with fail
  refine (scheck1 true _ _ _ _ _ rfl (qtyB' n h1)).mono ?_
  rintro e w3 ⟨rfl, hb3⟩
  simp only [show errV (rangeE true) = .iface 48 (.int .i64 1) from rfl]
  have hB3 : Below w.heap.size w w3 := (hb1.trans (hb2.mono hb1.size)).trans (hb3.mono (hb1.trans (hb2.mono hb1.size)).size)
  clear hb1 hb2 hb3
  go_wp2_with fail
  go_ret3
  exact ⟨rfl, hB3⟩

/-- What is wrong with taking so much of a queue. -/
def tchk (zs : List R) (n : Int) : Int := if qchk zs = 0 then (if 1 ≤ n ∧ n ≤ 10000 then 0 else 1) else qchk zs

/-- Take, at every queue and every number. -/
theorem take_any (v : Value) (zs : List R) (n : Int) (w : World) (h : SL w v zs) :
    Calls Tryd.prog 17 #[v, .int .i64 n] w fun e w' => ∃ fv lv, e = .returned (.tuple #[fv, lv, errV (tchk zs n)]) ∧ (tchk zs n = 0 → OwnF w' w.heap.size fv (take n zs).1 ∧ OwnQ w' w.heap.size lv (take n zs).2) ∧ (tchk zs n ≠ 0 → fv = .slice none 0 0 ∧ lv = .slice none 0 0) ∧ Below w.heap.size w w' := by
  unfold tchk
  by_cases h0 : qchk zs = 0
  · rw [if_pos h0]
    by_cases h1 : 1 ≤ n ∧ n ≤ 10000
    · rw [if_pos h1]
      refine (take_good v zs n w h h0 h1.1 h1.2).mono ?_
      rintro e w' ⟨fv, lv, rfl, hF, hQ, hB⟩
      exact ⟨fv, lv, rfl, fun _ => ⟨hF, hQ⟩, fun hh => absurd rfl hh, hB⟩
    · rw [if_neg h1]
      refine (take_range v zs n w h h0 h1).mono ?_
      rintro e w' ⟨rfl, hB⟩
      exact ⟨_, _, rfl, fun hh => absurd hh (by decide), fun _ => ⟨rfl, rfl⟩, hB⟩
  · rw [if_neg h0]
    refine (take_bad v zs n w h h0).mono ?_
    rintro e w' ⟨rfl, hB⟩
    exact ⟨_, _, rfl, fun hh => absurd hh h0, fun _ => ⟨rfl, rfl⟩, hB⟩

end Go.Proofs.YtefolhkecgcigaaDoor.que
