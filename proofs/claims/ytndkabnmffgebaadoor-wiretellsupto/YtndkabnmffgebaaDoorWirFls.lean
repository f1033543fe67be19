/- Contracts over this seat's translation: package wire's fields. -/
import Derived.Test.YtndkabnmffgebaaDoorWirFld
namespace Go.Proofs.YtndkabnmffgebaaDoor.wir
open Go.RowKit

theorem bal {V W : World} (h : Below V.heap.size V W) (o : Obj) : Below V.heap.size V (W.alloc o) := h.alloc h.size o
theorem OwnF.mono {w : World} {B B' cb : Nat} {v : Value} {fs : List (Nat × Nat)} (h : OwnF B w v cb fs) (hB : B' ≤ B) : OwnF B' w v cb fs := by
  refine ⟨h.1, ?_⟩
  rcases h.2 with hn | ⟨g, cap, cur, h1, h2, h3⟩
  · exact .inl hn
  · exact .inr ⟨g, cap, cur, h1, Nat.le_trans hB h2, h3⟩
/-- behind at pointers that have just been laid. -/
theorem beh_of (V : World) (cb n : Nat) (os : List Nat) (cs : Array Value) (t : TypeId) (hn : os.length = n) (h100 : n ≤ 100) (hz : cs = (os.map fun o => Value.pointer (some ⟨cb, o, none⟩)).toArray) :
    Calls Tryd.prog 39 #[.agg #[.pointer (some ⟨cb, 0, none⟩), .int .i64 1], .slice (some ⟨V.heap.size, 0, none⟩) n n] (V.alloc (.cells cs t)).drew
      fun e w' => ∃ v', e = .returned v' ∧ OwnF V.heap.size w' v' cb ((0, 1) :: os.map (fun o => (o, 2))) ∧ Below V.heap.size V w' := by
  subst hn hz
  have hb : Below V.heap.size V (V.alloc (.cells (os.map fun o => Value.pointer (some ⟨cb, o, none⟩)).toArray t)).drew := ((Below.refl _ _).alloc (Nat.le_refl _) _).drew
  refine (behind_any cb 0 1 V.heap.size os _ (by simp) h100 (fun j hj => ?_)).mono ?_
  · have hnew := heap_alloc_new V (.cells (os.map fun o => Value.pointer (some ⟨cb, o, none⟩)).toArray t)
    show (V.alloc (.cells (os.map fun o => Value.pointer (some ⟨cb, o, none⟩)).toArray t)).cell? ⟨V.heap.size, j, none⟩ = _
    simp only [World.cell?, hnew]
    simp [hj]
  · rintro e w' ⟨v', rfl, h1, h2⟩
    exact ⟨v', rfl, h1.mono hb.size, hb.trans (h2.mono hb.size)⟩

set_option maxRecDepth 100000 in
set_option maxHeartbeats 400000 in
theorem fields_1 (cb : Nat) (cs : Array Value) (k : Int) (w : World) (hc : w.heap[cb]? = some (.cells cs 25 (0, 0))) (h0 : cs[0]? = some (.int .i64 k))  (hk : k = 1) :
    Calls Tryd.prog 22 #[.pointer (some ⟨cb, 0, none⟩)] w
      fun e w' => ∃ v', e = .returned v' ∧ OwnF w.heap.size w' v' cb (offs k) ∧ Below w.heap.size w w' := by
  obtain ⟨X, hX⟩ : ∃ X, X = w.heap.size := ⟨_, rfl⟩
  have hlt : cb < w.heap.size := (Array.getElem?_eq_some_iff.1 hc).1
  go_enter Tryd.func22, Tryd.ntmps22
  go_upto_region 1 with fail
  go_region
  obtain ⟨V, hV⟩ : ∃ V, V = (w.alloc (.cells #[.pointer (some ⟨cb, 0, none⟩), .int .i64 1] 59)).drew := ⟨_, rfl⟩
  have HV : Hid (Below X w V ∧ V.heap.size = X + 1) := by
    subst hV hX
    exact ⟨((Below.refl _ _).alloc (Nat.le_refl _) _).drew, by simp⟩
  have hR : V.heap[X]? = some (.cells #[.pointer (some ⟨cb, 0, none⟩), .int .i64 1] 59 (0, 0)) := by
    subst hV hX; exact heap_alloc_new w _
  have hB : V.heap[cb]? = some (.cells cs 25 (0, 0)) := by
    rw [HV.out.1.block cb (by rw [hX]; exact hlt)]; exact hc
  have r0 : V.cell? ⟨X, 0, none⟩ = some (.pointer (some ⟨cb, 0, none⟩)) := by simp [World.cell?, hR]
  have r1 : V.cell? ⟨X, 1, none⟩ = some (.int .i64 1) := by simp [World.cell?, hR]
  have rk : V.cell? ⟨cb, 0, none⟩ = some (.int .i64 k) := by simp only [World.cell?, hB]; exact h0
  have HX := hidW hX
  simp only [← hX, ← hV]
  clear hX hV hc h0 hB hR hlt
  subst hk
  have HFIN : Hid (∀ v2 w2 fs, OwnF V.heap.size w2 v2 cb fs → Below V.heap.size V w2 → OwnF w.heap.size w2 v2 cb fs ∧ Below w.heap.size w w2) := by
    intro v2 w2 fs ho hb
    have h1 := HV.out.1
    rw [HX.out] at h1
    exact ⟨ho.mono h1.size, h1.trans (hb.mono h1.size)⟩
  have HC8 : Hid (∀ t, Calls Tryd.prog 39 #[.agg #[.pointer (some ⟨cb, 0, none⟩), .int .i64 1], .slice (some ⟨V.heap.size, 0, none⟩) 8 8] (V.alloc (.cells #[.pointer (some ⟨cb, 1, none⟩), .pointer (some ⟨cb, 2, none⟩), .pointer (some ⟨cb, 3, none⟩), .pointer (some ⟨cb, 4, none⟩), .pointer (some ⟨cb, 5, none⟩), .pointer (some ⟨cb, 6, none⟩), .pointer (some ⟨cb, 7, none⟩), .pointer (some ⟨cb, 8, none⟩)] t)).drew
    fun e w' => ∃ v', e = .returned v' ∧ OwnF V.heap.size w' v' cb (offs 1) ∧ Below V.heap.size V w') := fun t => beh_of V cb 8 [1, 2, 3, 4, 5, 6, 7, 8] _ t rfl (by decide) rfl
  go_upto_region 4 with fail
  have SO : Hid (∀ W, Below V.heap.size V W → (Below V.heap.size V W ∧ W.cell? ⟨X, 0, none⟩ = some (.pointer (some ⟨cb, 0, none⟩)) ∧ W.cell? ⟨X, 1, none⟩ = some (.int .i64 1))) := fun W hW => ⟨hW, (hW.cell (p := ⟨X, 0, none⟩) (by have := HV.out.2; show X < _; omega)).trans r0, (hW.cell (p := ⟨X, 1, none⟩) (by have := HV.out.2; show X < _; omega)).trans r1⟩
  go_region_held3 (fun W => Below V.heap.size V W ∧ W.cell? ⟨X, 0, none⟩ = some (.pointer (some ⟨cb, 0, none⟩)) ∧ W.cell? ⟨X, 1, none⟩ = some (.int .i64 1))
    ((refine SO.out _ ?_; (repeat' (first | with_reducible assumption | with_reducible refine bal ?_ _ | with_reducible refine Below.drew ?_ | with_reducible exact Below.refl _ _ | with_reducible exact Nat.le_refl _))))
    ((go_at_call 39; with_reducible refine (HC8.out _).mono ?_; rintro e w2 ⟨v2, rfl, ho, hb⟩))
  all_goals
    go_wp2_with fail
    go_ret
    exact ⟨_, rfl, HFIN.out _ _ _ ho hb⟩

set_option maxRecDepth 100000 in
set_option maxHeartbeats 400000 in
theorem fields_2 (cb : Nat) (cs : Array Value) (k : Int) (w : World) (hc : w.heap[cb]? = some (.cells cs 25 (0, 0))) (h0 : cs[0]? = some (.int .i64 k))  (hk : k = 2) :
    Calls Tryd.prog 22 #[.pointer (some ⟨cb, 0, none⟩)] w
      fun e w' => ∃ v', e = .returned v' ∧ OwnF w.heap.size w' v' cb (offs k) ∧ Below w.heap.size w w' := by
  obtain ⟨X, hX⟩ : ∃ X, X = w.heap.size := ⟨_, rfl⟩
  have hlt : cb < w.heap.size := (Array.getElem?_eq_some_iff.1 hc).1
  go_enter Tryd.func22, Tryd.ntmps22
  go_upto_region 1 with fail
  go_region
  obtain ⟨V, hV⟩ : ∃ V, V = (w.alloc (.cells #[.pointer (some ⟨cb, 0, none⟩), .int .i64 1] 59)).drew := ⟨_, rfl⟩
  have HV : Hid (Below X w V ∧ V.heap.size = X + 1) := by
    subst hV hX
    exact ⟨((Below.refl _ _).alloc (Nat.le_refl _) _).drew, by simp⟩
  have hR : V.heap[X]? = some (.cells #[.pointer (some ⟨cb, 0, none⟩), .int .i64 1] 59 (0, 0)) := by
    subst hV hX; exact heap_alloc_new w _
  have hB : V.heap[cb]? = some (.cells cs 25 (0, 0)) := by
    rw [HV.out.1.block cb (by rw [hX]; exact hlt)]; exact hc
  have r0 : V.cell? ⟨X, 0, none⟩ = some (.pointer (some ⟨cb, 0, none⟩)) := by simp [World.cell?, hR]
  have r1 : V.cell? ⟨X, 1, none⟩ = some (.int .i64 1) := by simp [World.cell?, hR]
  have rk : V.cell? ⟨cb, 0, none⟩ = some (.int .i64 k) := by simp only [World.cell?, hB]; exact h0
  have HX := hidW hX
  simp only [← hX, ← hV]
  clear hX hV hc h0 hB hR hlt
  subst hk
  have HFIN : Hid (∀ v2 w2 fs, OwnF V.heap.size w2 v2 cb fs → Below V.heap.size V w2 → OwnF w.heap.size w2 v2 cb fs ∧ Below w.heap.size w w2) := by
    intro v2 w2 fs ho hb
    have h1 := HV.out.1
    rw [HX.out] at h1
    exact ⟨ho.mono h1.size, h1.trans (hb.mono h1.size)⟩
  have HC1 : Hid (∀ t, Calls Tryd.prog 39 #[.agg #[.pointer (some ⟨cb, 0, none⟩), .int .i64 1], .slice (some ⟨V.heap.size, 0, none⟩) 1 1] (V.alloc (.cells #[.pointer (some ⟨cb, 1, none⟩)] t)).drew
    fun e w' => ∃ v', e = .returned v' ∧ OwnF V.heap.size w' v' cb (offs 2) ∧ Below V.heap.size V w') := fun t => beh_of V cb 1 [1] _ t rfl (by decide) rfl
  go_upto_region 6 with fail
  have SO : Hid (∀ W, Below V.heap.size V W → (Below V.heap.size V W ∧ W.cell? ⟨X, 0, none⟩ = some (.pointer (some ⟨cb, 0, none⟩)) ∧ W.cell? ⟨X, 1, none⟩ = some (.int .i64 1))) := fun W hW => ⟨hW, (hW.cell (p := ⟨X, 0, none⟩) (by have := HV.out.2; show X < _; omega)).trans r0, (hW.cell (p := ⟨X, 1, none⟩) (by have := HV.out.2; show X < _; omega)).trans r1⟩
  go_region_held3 (fun W => Below V.heap.size V W ∧ W.cell? ⟨X, 0, none⟩ = some (.pointer (some ⟨cb, 0, none⟩)) ∧ W.cell? ⟨X, 1, none⟩ = some (.int .i64 1))
    ((refine SO.out _ ?_; (repeat' (first | with_reducible assumption | with_reducible refine bal ?_ _ | with_reducible refine Below.drew ?_ | with_reducible exact Below.refl _ _ | with_reducible exact Nat.le_refl _))))
    ((go_at_call 39; with_reducible refine (HC1.out _).mono ?_; rintro e w2 ⟨v2, rfl, ho, hb⟩))
  all_goals
    go_wp2_with fail
    go_ret
    exact ⟨_, rfl, HFIN.out _ _ _ ho hb⟩

set_option maxRecDepth 100000 in
set_option maxHeartbeats 400000 in
theorem fields_3 (cb : Nat) (cs : Array Value) (k : Int) (w : World) (hc : w.heap[cb]? = some (.cells cs 25 (0, 0))) (h0 : cs[0]? = some (.int .i64 k))  (hk : k = 3) :
    Calls Tryd.prog 22 #[.pointer (some ⟨cb, 0, none⟩)] w
      fun e w' => ∃ v', e = .returned v' ∧ OwnF w.heap.size w' v' cb (offs k) ∧ Below w.heap.size w w' := by
  obtain ⟨X, hX⟩ : ∃ X, X = w.heap.size := ⟨_, rfl⟩
  have hlt : cb < w.heap.size := (Array.getElem?_eq_some_iff.1 hc).1
  go_enter Tryd.func22, Tryd.ntmps22
  go_upto_region 1 with fail
  go_region
  obtain ⟨V, hV⟩ : ∃ V, V = (w.alloc (.cells #[.pointer (some ⟨cb, 0, none⟩), .int .i64 1] 59)).drew := ⟨_, rfl⟩
  have HV : Hid (Below X w V ∧ V.heap.size = X + 1) := by
    subst hV hX
    exact ⟨((Below.refl _ _).alloc (Nat.le_refl _) _).drew, by simp⟩
  have hR : V.heap[X]? = some (.cells #[.pointer (some ⟨cb, 0, none⟩), .int .i64 1] 59 (0, 0)) := by
    subst hV hX; exact heap_alloc_new w _
  have hB : V.heap[cb]? = some (.cells cs 25 (0, 0)) := by
    rw [HV.out.1.block cb (by rw [hX]; exact hlt)]; exact hc
  have r0 : V.cell? ⟨X, 0, none⟩ = some (.pointer (some ⟨cb, 0, none⟩)) := by simp [World.cell?, hR]
  have r1 : V.cell? ⟨X, 1, none⟩ = some (.int .i64 1) := by simp [World.cell?, hR]
  have rk : V.cell? ⟨cb, 0, none⟩ = some (.int .i64 k) := by simp only [World.cell?, hB]; exact h0
  have HX := hidW hX
  simp only [← hX, ← hV]
  clear hX hV hc h0 hB hR hlt
  subst hk
  have HFIN : Hid (∀ v2 w2 fs, OwnF V.heap.size w2 v2 cb fs → Below V.heap.size V w2 → OwnF w.heap.size w2 v2 cb fs ∧ Below w.heap.size w w2) := by
    intro v2 w2 fs ho hb
    have h1 := HV.out.1
    rw [HX.out] at h1
    exact ⟨ho.mono h1.size, h1.trans (hb.mono h1.size)⟩
  have HC3 : Hid (∀ t, Calls Tryd.prog 39 #[.agg #[.pointer (some ⟨cb, 0, none⟩), .int .i64 1], .slice (some ⟨V.heap.size, 0, none⟩) 3 3] (V.alloc (.cells #[.pointer (some ⟨cb, 1, none⟩), .pointer (some ⟨cb, 5, none⟩), .pointer (some ⟨cb, 6, none⟩)] t)).drew
    fun e w' => ∃ v', e = .returned v' ∧ OwnF V.heap.size w' v' cb (offs 3) ∧ Below V.heap.size V w') := fun t => beh_of V cb 3 [1, 5, 6] _ t rfl (by decide) rfl
  go_upto_region 8 with fail
  have SO : Hid (∀ W, Below V.heap.size V W → (Below V.heap.size V W ∧ W.cell? ⟨X, 0, none⟩ = some (.pointer (some ⟨cb, 0, none⟩)) ∧ W.cell? ⟨X, 1, none⟩ = some (.int .i64 1))) := fun W hW => ⟨hW, (hW.cell (p := ⟨X, 0, none⟩) (by have := HV.out.2; show X < _; omega)).trans r0, (hW.cell (p := ⟨X, 1, none⟩) (by have := HV.out.2; show X < _; omega)).trans r1⟩
  go_region_held3 (fun W => Below V.heap.size V W ∧ W.cell? ⟨X, 0, none⟩ = some (.pointer (some ⟨cb, 0, none⟩)) ∧ W.cell? ⟨X, 1, none⟩ = some (.int .i64 1))
    ((refine SO.out _ ?_; (repeat' (first | with_reducible assumption | with_reducible refine bal ?_ _ | with_reducible refine Below.drew ?_ | with_reducible exact Below.refl _ _ | with_reducible exact Nat.le_refl _))))
    ((go_at_call 39; with_reducible refine (HC3.out _).mono ?_; rintro e w2 ⟨v2, rfl, ho, hb⟩))
  all_goals
    go_wp2_with fail
    go_ret
    exact ⟨_, rfl, HFIN.out _ _ _ ho hb⟩

set_option maxRecDepth 100000 in
set_option maxHeartbeats 400000 in
theorem fields_4 (cb : Nat) (cs : Array Value) (k : Int) (w : World) (hc : w.heap[cb]? = some (.cells cs 25 (0, 0))) (h0 : cs[0]? = some (.int .i64 k))  (hk : k = 4) :
    Calls Tryd.prog 22 #[.pointer (some ⟨cb, 0, none⟩)] w
      fun e w' => ∃ v', e = .returned v' ∧ OwnF w.heap.size w' v' cb (offs k) ∧ Below w.heap.size w w' := by
  obtain ⟨X, hX⟩ : ∃ X, X = w.heap.size := ⟨_, rfl⟩
  have hlt : cb < w.heap.size := (Array.getElem?_eq_some_iff.1 hc).1
  go_enter Tryd.func22, Tryd.ntmps22
  go_upto_region 1 with fail
  go_region
  obtain ⟨V, hV⟩ : ∃ V, V = (w.alloc (.cells #[.pointer (some ⟨cb, 0, none⟩), .int .i64 1] 59)).drew := ⟨_, rfl⟩
  have HV : Hid (Below X w V ∧ V.heap.size = X + 1) := by
    subst hV hX
    exact ⟨((Below.refl _ _).alloc (Nat.le_refl _) _).drew, by simp⟩
  have hR : V.heap[X]? = some (.cells #[.pointer (some ⟨cb, 0, none⟩), .int .i64 1] 59 (0, 0)) := by
    subst hV hX; exact heap_alloc_new w _
  have hB : V.heap[cb]? = some (.cells cs 25 (0, 0)) := by
    rw [HV.out.1.block cb (by rw [hX]; exact hlt)]; exact hc
  have r0 : V.cell? ⟨X, 0, none⟩ = some (.pointer (some ⟨cb, 0, none⟩)) := by simp [World.cell?, hR]
  have r1 : V.cell? ⟨X, 1, none⟩ = some (.int .i64 1) := by simp [World.cell?, hR]
  have rk : V.cell? ⟨cb, 0, none⟩ = some (.int .i64 k) := by simp only [World.cell?, hB]; exact h0
  have HX := hidW hX
  simp only [← hX, ← hV]
  clear hX hV hc h0 hB hR hlt
  subst hk
  have HFIN : Hid (∀ v2 w2 fs, OwnF V.heap.size w2 v2 cb fs → Below V.heap.size V w2 → OwnF w.heap.size w2 v2 cb fs ∧ Below w.heap.size w w2) := by
    intro v2 w2 fs ho hb
    have h1 := HV.out.1
    rw [HX.out] at h1
    exact ⟨ho.mono h1.size, h1.trans (hb.mono h1.size)⟩
  have HLIT : Hid (∀ (n : Nat) (fs : List (Nat × Nat)), n = fs.length → n ≤ 100 → OwnF V.heap.size (V.alloc (.cells (fCs cb fs).toArray 59)) (.slice (some ⟨V.heap.size, 0, none⟩) n n) cb fs ∧ Below V.heap.size V (V.alloc (.cells (fCs cb fs).toArray 59))) := by
    intro n fs hn h100
    subst hn
    have hl : (fCs cb fs).length = fs.length * 2 := by
      clear h100
      induction fs with
      | nil => rfl
      | cons a r ih =>
        have : fCs cb (a :: r) = fC cb a ++ fCs cb r := rfl
        rw [this, List.length_append, ih]
        simp only [fC, List.length_cons, List.length_nil]
        omega
    refine ⟨?_, (Below.refl _ _).alloc (Nat.le_refl _) _⟩
    have := World.ownsRow_lit (base := V.heap.size) (e := 59) (size := 2) V (fCs cb fs).toArray fs.length (Nat.le_refl _) (by unfold maxLen; omega) (by simpa using hl)
    simpa using this
  obtain ⟨g1, g2⟩ := HLIT.out 3 [(0, 1), (9, 1), (10, 4)] rfl (by decide)
  have HF3 : Hid (OwnF w.heap.size (V.alloc (.cells #[.pointer (some ⟨cb, 0, none⟩), .int .i64 1, .pointer (some ⟨cb, 9, none⟩), .int .i64 1, .pointer (some ⟨cb, 10, none⟩), .int .i64 4] 59)).drew (.slice (some ⟨V.heap.size, 0, none⟩) 3 3) cb (offs 4) ∧ Below w.heap.size w (V.alloc (.cells #[.pointer (some ⟨cb, 0, none⟩), .int .i64 1, .pointer (some ⟨cb, 9, none⟩), .int .i64 1, .pointer (some ⟨cb, 10, none⟩), .int .i64 4] 59)).drew) := ⟨(HFIN.out _ _ _ g1 g2).1, (HFIN.out _ _ _ g1 g2).2.drew⟩
  clear g1 g2 HLIT
  go_upto_region 11 with fail
  go_region
  go_wp2_with fail
  go_ret
  exact ⟨_, rfl, HF3.out⟩
set_option maxRecDepth 100000 in
set_option maxHeartbeats 400000 in
theorem fields_5 (cb : Nat) (cs : Array Value) (k : Int) (w : World) (hc : w.heap[cb]? = some (.cells cs 25 (0, 0))) (h0 : cs[0]? = some (.int .i64 k))  (hk : k = 5) :
    Calls Tryd.prog 22 #[.pointer (some ⟨cb, 0, none⟩)] w
      fun e w' => ∃ v', e = .returned v' ∧ OwnF w.heap.size w' v' cb (offs k) ∧ Below w.heap.size w w' := by
  obtain ⟨X, hX⟩ : ∃ X, X = w.heap.size := ⟨_, rfl⟩
  have hlt : cb < w.heap.size := (Array.getElem?_eq_some_iff.1 hc).1
  go_enter Tryd.func22, Tryd.ntmps22
  go_upto_region 1 with fail
  go_region
  obtain ⟨V, hV⟩ : ∃ V, V = (w.alloc (.cells #[.pointer (some ⟨cb, 0, none⟩), .int .i64 1] 59)).drew := ⟨_, rfl⟩
  have HV : Hid (Below X w V ∧ V.heap.size = X + 1) := by
    subst hV hX
    exact ⟨((Below.refl _ _).alloc (Nat.le_refl _) _).drew, by simp⟩
  have hR : V.heap[X]? = some (.cells #[.pointer (some ⟨cb, 0, none⟩), .int .i64 1] 59 (0, 0)) := by
    subst hV hX; exact heap_alloc_new w _
  have hB : V.heap[cb]? = some (.cells cs 25 (0, 0)) := by
    rw [HV.out.1.block cb (by rw [hX]; exact hlt)]; exact hc
  have r0 : V.cell? ⟨X, 0, none⟩ = some (.pointer (some ⟨cb, 0, none⟩)) := by simp [World.cell?, hR]
  have r1 : V.cell? ⟨X, 1, none⟩ = some (.int .i64 1) := by simp [World.cell?, hR]
  have rk : V.cell? ⟨cb, 0, none⟩ = some (.int .i64 k) := by simp only [World.cell?, hB]; exact h0
  have HX := hidW hX
  simp only [← hX, ← hV]
  clear hX hV hc h0 hB hR hlt
  subst hk
  have HFIN : Hid (∀ v2 w2 fs, OwnF V.heap.size w2 v2 cb fs → Below V.heap.size V w2 → OwnF w.heap.size w2 v2 cb fs ∧ Below w.heap.size w w2) := by
    intro v2 w2 fs ho hb
    have h1 := HV.out.1
    rw [HX.out] at h1
    exact ⟨ho.mono h1.size, h1.trans (hb.mono h1.size)⟩
  have HLIT : Hid (∀ (n : Nat) (fs : List (Nat × Nat)), n = fs.length → n ≤ 100 → OwnF V.heap.size (V.alloc (.cells (fCs cb fs).toArray 59)) (.slice (some ⟨V.heap.size, 0, none⟩) n n) cb fs ∧ Below V.heap.size V (V.alloc (.cells (fCs cb fs).toArray 59))) := by
    intro n fs hn h100
    subst hn
    have hl : (fCs cb fs).length = fs.length * 2 := by
      clear h100
      induction fs with
      | nil => rfl
      | cons a r ih =>
        have : fCs cb (a :: r) = fC cb a ++ fCs cb r := rfl
        rw [this, List.length_append, ih]
        simp only [fC, List.length_cons, List.length_nil]
        omega
    refine ⟨?_, (Below.refl _ _).alloc (Nat.le_refl _) _⟩
    have := World.ownsRow_lit (base := V.heap.size) (e := 59) (size := 2) V (fCs cb fs).toArray fs.length (Nat.le_refl _) (by unfold maxLen; omega) (by simpa using hl)
    simpa using this
  obtain ⟨g1, g2⟩ := HLIT.out 3 [(0, 1), (9, 1), (10, 4)] rfl (by decide)
  have HF3 : Hid (OwnF w.heap.size (V.alloc (.cells #[.pointer (some ⟨cb, 0, none⟩), .int .i64 1, .pointer (some ⟨cb, 9, none⟩), .int .i64 1, .pointer (some ⟨cb, 10, none⟩), .int .i64 4] 59)).drew (.slice (some ⟨V.heap.size, 0, none⟩) 3 3) cb (offs 5) ∧ Below w.heap.size w (V.alloc (.cells #[.pointer (some ⟨cb, 0, none⟩), .int .i64 1, .pointer (some ⟨cb, 9, none⟩), .int .i64 1, .pointer (some ⟨cb, 10, none⟩), .int .i64 4] 59)).drew) := ⟨(HFIN.out _ _ _ g1 g2).1, (HFIN.out _ _ _ g1 g2).2.drew⟩
  clear g1 g2 HLIT
  go_upto_region 11 with fail
  go_region
  go_wp2_with fail
  go_ret
  exact ⟨_, rfl, HF3.out⟩
set_option maxRecDepth 100000 in
set_option maxHeartbeats 400000 in
theorem fields_0 (cb : Nat) (cs : Array Value) (k : Int) (w : World) (hc : w.heap[cb]? = some (.cells cs 25 (0, 0))) (h0 : cs[0]? = some (.int .i64 k))  (h1 : ¬ k = 1) (h2 : ¬ k = 2) (h3 : ¬ k = 3) (h4 : ¬ k = 4) (h5 : ¬ k = 5) :
    Calls Tryd.prog 22 #[.pointer (some ⟨cb, 0, none⟩)] w
      fun e w' => ∃ v', e = .returned v' ∧ OwnF w.heap.size w' v' cb (offs k) ∧ Below w.heap.size w w' := by
  obtain ⟨X, hX⟩ : ∃ X, X = w.heap.size := ⟨_, rfl⟩
  have hlt : cb < w.heap.size := (Array.getElem?_eq_some_iff.1 hc).1
  go_enter Tryd.func22, Tryd.ntmps22
  go_upto_region 1 with fail
  go_region
  obtain ⟨V, hV⟩ : ∃ V, V = (w.alloc (.cells #[.pointer (some ⟨cb, 0, none⟩), .int .i64 1] 59)).drew := ⟨_, rfl⟩
  have HV : Hid (Below X w V ∧ V.heap.size = X + 1) := by
    subst hV hX
    exact ⟨((Below.refl _ _).alloc (Nat.le_refl _) _).drew, by simp⟩
  have hR : V.heap[X]? = some (.cells #[.pointer (some ⟨cb, 0, none⟩), .int .i64 1] 59 (0, 0)) := by
    subst hV hX; exact heap_alloc_new w _
  have hB : V.heap[cb]? = some (.cells cs 25 (0, 0)) := by
    rw [HV.out.1.block cb (by rw [hX]; exact hlt)]; exact hc
  have r0 : V.cell? ⟨X, 0, none⟩ = some (.pointer (some ⟨cb, 0, none⟩)) := by simp [World.cell?, hR]
  have r1 : V.cell? ⟨X, 1, none⟩ = some (.int .i64 1) := by simp [World.cell?, hR]
  have rk : V.cell? ⟨cb, 0, none⟩ = some (.int .i64 k) := by simp only [World.cell?, hB]; exact h0
  have HX := hidW hX
  simp only [← hX, ← hV]
  clear hX hV hc h0 hB hR hlt
  have HFIN : Hid (∀ v2 w2 fs, OwnF V.heap.size w2 v2 cb fs → Below V.heap.size V w2 → OwnF w.heap.size w2 v2 cb fs ∧ Below w.heap.size w w2) := by
    intro v2 w2 fs ho hb
    have h1 := HV.out.1
    rw [HX.out] at h1
    exact ⟨ho.mono h1.size, h1.trans (hb.mono h1.size)⟩
  have HLIT : Hid (∀ (n : Nat) (fs : List (Nat × Nat)), n = fs.length → n ≤ 100 → OwnF V.heap.size (V.alloc (.cells (fCs cb fs).toArray 59)) (.slice (some ⟨V.heap.size, 0, none⟩) n n) cb fs ∧ Below V.heap.size V (V.alloc (.cells (fCs cb fs).toArray 59))) := by
    intro n fs hn h100
    subst hn
    have hl : (fCs cb fs).length = fs.length * 2 := by
      clear h100
      induction fs with
      | nil => rfl
      | cons a r ih =>
        have : fCs cb (a :: r) = fC cb a ++ fCs cb r := rfl
        rw [this, List.length_append, ih]
        simp only [fC, List.length_cons, List.length_nil]
        omega
    refine ⟨?_, (Below.refl _ _).alloc (Nat.le_refl _) _⟩
    have := World.ownsRow_lit (base := V.heap.size) (e := 59) (size := 2) V (fCs cb fs).toArray fs.length (Nat.le_refl _) (by unfold maxLen; omega) (by simpa using hl)
    simpa using this
  have ho : offs k = [(0, 1)] := by simp only [offs, if_neg h1, if_neg h2, if_neg h3]; rw [if_neg (by omega)]
  obtain ⟨g1, g2⟩ := HLIT.out 1 [(0, 1)] rfl (by decide)
  have HF3 := hidW (HFIN.out _ _ _ g1 g2)
  have HO := hidW ho
  clear g1 g2 HLIT ho
  go_wp2_with fail
  go_ret
  exact ⟨_, rfl, by rw [HO.out]; exact HF3.out.1, HF3.out.2⟩
theorem fields_any (cb : Nat) (cs : Array Value) (k : Int) (w : World) (hc : w.heap[cb]? = some (.cells cs 25 (0, 0))) (h0 : cs[0]? = some (.int .i64 k)) :
    Calls Tryd.prog 22 #[.pointer (some ⟨cb, 0, none⟩)] w
      fun e w' => ∃ v', e = .returned v' ∧ OwnF w.heap.size w' v' cb (offs k) ∧ Below w.heap.size w w' := by
  by_cases h1 : k = 1
  · exact fields_1 cb cs k w hc h0 h1
  by_cases h2 : k = 2
  · exact fields_2 cb cs k w hc h0 h2
  by_cases h3 : k = 3
  · exact fields_3 cb cs k w hc h0 h3
  by_cases h4 : k = 4
  · exact fields_4 cb cs k w hc h0 h4
  by_cases h5 : k = 5
  · exact fields_5 cb cs k w hc h0 h5
  exact fields_0 cb cs k w hc h0 h1 h2 h3 h4 h5
end Go.Proofs.YtndkabnmffgebaaDoor.wir
