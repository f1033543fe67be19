/- The walk of QueueTakes. -/
import Derived.Test.YtefolhkecgcigaaQueTake3
import Derived.Test.YtefolhkecgcigaaQueSame
import Derived.Test.YtefolhkecgcigaaQTurns
namespace Go.Proofs.Ytefolhkecgcigaa.que
open Go.RowKit Go.Proofs.Ytefolhkecgcigaa.spn

def z0 : List R := [⟨1, 1, 5, 3, 5⟩, ⟨2, 2, 4, 0, 0⟩]
theorem z0_chk : qchk z0 = 0 := by decide
theorem z0_take : take 6 z0 = ([⟨1, 1, 5⟩, ⟨2, 2, 1⟩], [⟨2, 2, 3, 0, 0⟩, ⟨1, 1, 3, 0, 5⟩]) := by decide

theorem OwnM.slc {w : World} {base : Nat} {e : TypeId} {sz : Nat} {v : Value} {n : Nat} {xs : List Value} (h : OwnM w base e sz v n xs) : ∃ p c, v = .slice p n c := by
  rcases h.2 with ⟨rfl, rfl⟩ | ⟨g, off, cap, cur, rfl, _⟩
  · exact ⟨none, 0, rfl⟩
  · exact ⟨_, _, rfl⟩

/-- The first call, at constants. -/
theorem fact_any (w : World) :
    Calls Try.prog 5 #[.slice (some ⟨w.heap.size, 0, none⟩) 2 2, .int .i64 6] (w.alloc (.cells #[.int .i64 1, .int .i64 1, .int .i64 5, .int .i64 3, .int .i64 5, .int .i64 2, .int .i64 2, .int .i64 4, .int .i64 0, .int .i64 0] 24))
      fun e w' => ∃ g o c p d, e = .returned (.tuple #[.slice (some ⟨g, o, none⟩) 2 c, .slice p 2 d, .nilIface]) ∧ w'.cell? ⟨g, o + 2, none⟩ = some (.int .i64 5) ∧ w'.cell? ⟨g, o + 3, none⟩ = some (.int .i64 2) ∧ Below w.heap.size w w' := by
  refine (take_good _ z0 6 _ (two_sl w 1 1 5 3 5 2 2 4 0 0) z0_chk (by decide) (by decide)).mono ?_
  rintro e w' ⟨fv, lv, rfl, hF, hQ, hB⟩
  rw [z0_take] at hF hQ
  obtain ⟨g, o, c, rfl, hc⟩ := fill_at hF (by decide)
  obtain ⟨p, d, rfl⟩ := hQ.slc
  refine ⟨g, o, c, p, d, rfl, ?_, ?_, ?_⟩
  · have := (hc 0 1 1 5 rfl).2.2
    simpa using this
  · have := (hc 1 2 2 1 rfl).1
    simpa using this
  · exact ((Below.refl _ _).alloc (Nat.le_refl _) _).trans (hB.mono (by simp))

set_option maxRecDepth 100000 in
set_option maxHeartbeats 1000000 in
theorem takes_err (v : Value) (zs : List R) (n cut : Int) (w : World) (h : SL w v zs) (hE : tchk zs n ≠ 0) :
    Calls Try.prog 3 #[v, .int .i64 n, .int .i64 cut] w fun e w' => e = .returned (.bool true) ∧ Below w.heap.size w w' := by
  have HS : Hid (SL w v zs) := h
  clear h
  have HT := fun W hW => total_any v zs W hW
  have HK := fun W hW => take_any v zs n W hW
  rw [errV_of hE] at HK
  generalize (if qchk zs = 0 then tot zs else 0) = T at HT
  generalize errV (qchk zs) = E0 at HT
  have HT' : Hid (∀ W, SL W v zs → Calls Try.prog 6 #[v] W fun e w' => e = .returned (.tuple #[.int .i64 T, E0]) ∧ Below W.heap.size W w') := HT
  clear HT
  have HK' : Hid (∀ W, SL W v zs → Calls Try.prog 5 #[v, .int .i64 n] W fun e w' => ∃ fv lv, e = .returned (.tuple #[fv, lv, .iface 44 (.int .i64 (tchk zs n))]) ∧ Below W.heap.size W w') := by
    intro W hW
    refine (HK W hW).mono ?_
    rintro e w' ⟨fv, lv, h1, _, _, h2⟩
    exact ⟨fv, lv, h1, h2⟩
  clear HK
  go_enter Try.func3, Try.ntmps3
  go_wp2_with fail
  refine (fact_any w).mono ?_
  rintro e w1 ⟨g, o, c, p, d, rfl, k1, k2, hb1⟩
  have HB1 : Hid (Below w.heap.size w w1) := hb1
  clear hb1
  go_wp2_with fail
  refine (HT'.out _ (HS.out.below HB1.out)).mono ?_
  rintro e w2 ⟨rfl, hb2⟩
  have HB2 : Hid (Below w.heap.size w w2) := HB1.out.trans (hb2.mono HB1.out.size)
  clear hb2 k1 k2
  go_wp2_with fail
  refine (HK'.out _ (HS.out.below HB2.out)).mono ?_
  rintro e w3 ⟨fv, lv, rfl, hb3⟩
  have HB3 : Hid (Below w.heap.size w w3) := HB2.out.trans (hb3.mono HB2.out.size)
  clear hb3
  go_wp2_with fail
  go_ret
  exact ⟨rfl, HB3.out⟩

end Go.Proofs.Ytefolhkecgcigaa.que
