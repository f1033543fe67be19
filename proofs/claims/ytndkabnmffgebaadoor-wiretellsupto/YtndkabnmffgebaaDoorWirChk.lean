/- Contracts over this seat's translation: package wire's checkWritten. -/
import Derived.Test.YtndkabnmffgebaaDoorWirUnw
namespace Go.Proofs.YtndkabnmffgebaaDoor.wir
open Go.RowKit
open Go.Proofs.YtndkabnmffgebaaDoor.spn (keeps spanB scheck1 scheck2 scheck3 rangeE id_any who_any qty_any price_any of_any)
open Go.Proofs.YtndkabnmffgebaaDoor.ord (O chk oV errV errV_zero errV_of)

theorem price_V (V : World) (n : Int) (w : World) (h : Below V.heap.size V w) :
    Calls Tryd.prog 35 #[.int .i64 n] w fun e w' => e = .returned (.agg #[.int .i64 n, .int .i64 1, .int .i64 10000]) ∧ Below V.heap.size V w' :=
  (price_any n w).mono fun _ _ h' => ⟨h'.1, h.trans (h'.2.mono h.size)⟩
theorem span_in (a b c : Int) : spanB (a, b, c) = !inB a b c := by
  rw [Bool.eq_iff_iff]
  simp [spanB, inB]
theorem range1 (a b c : Int) : rangeE ([(a, b, c)].any spanB) = if inB a b c then 0 else 1 := by
  simp only [List.any_cons, List.any_nil, span_in]
  cases inB a b c <;> rfl
theorem range2 (a b c d e f : Int) : rangeE ([(a, b, c), (d, e, f)].any spanB) = if inB a b c && inB d e f then 0 else 1 := by
  simp only [List.any_cons, List.any_nil, span_in]
  cases inB a b c <;> cases inB d e f <;> rfl
theorem range3 (a b c d e f g h i : Int) : rangeE ([(a, b, c), (d, e, f), (g, h, i)].any spanB) = if inB a b c && inB d e f && inB g h i then 0 else 1 := by
  simp only [List.any_cons, List.any_nil, span_in]
  cases inB a b c <;> cases inB d e f <;> cases inB g h i <;> rfl

set_option maxRecDepth 100000 in
set_option maxHeartbeats 1000000 in
theorem written_walk (c0 c1 c2 c3 c4 c5 c6 c7 c8 c9 c10 : Int) (w : World) :
    Calls Tryd.prog 19 #[.agg #[.int .i64 c0, .int .i64 c1, .int .i64 c2, .int .i64 c3, .int .i64 c4, .int .i64 c5, .int .i64 c6, .int .i64 c7, .int .i64 c8, .int .i64 c9, .int .i64 c10]] w
      fun e w' => e = .returned (errV (wchk [c0, c1, c2, c3, c4, c5, c6, c7, c8, c9, c10])) ∧ Below w.heap.size w w' := by
  obtain ⟨E, hE⟩ : ∃ E, E = wchk [c0, c1, c2, c3, c4, c5, c6, c7, c8, c9, c10] := ⟨_, rfl⟩
  have HE := hidW hE
  rw [← hE]
  clear hE
  obtain ⟨X, hX⟩ : ∃ X, X = w.heap.size := ⟨_, rfl⟩
  have HX := hidW hX
  obtain ⟨V, hV⟩ : ∃ V, V = (w.alloc (.cells #[.int .i64 c0, .int .i64 c1, .int .i64 c2, .int .i64 c3, .int .i64 c4, .int .i64 c5, .int .i64 c6, .int .i64 c7, .int .i64 c8, .int .i64 c9, .int .i64 c10] 25)).alloc (.cells #[.int .i64 c1, .int .i64 c2, .int .i64 c3, .int .i64 c4, .int .i64 c5, .int .i64 c6, .int .i64 c7, .int .i64 c8] 23) := ⟨_, rfl⟩
  have HV : Hid (Below X w V ∧ Cmd V X [c0, c1, c2, c3, c4, c5, c6, c7, c8, c9, c10] ∧ V.heap[X + 1]? = some (.cells #[.int .i64 c1, .int .i64 c2, .int .i64 c3, .int .i64 c4, .int .i64 c5, .int .i64 c6, .int .i64 c7, .int .i64 c8] 23 (0, 0)) ∧ V.heap.size = X + 2) := by
    subst hV hX
    refine ⟨((Below.refl _ _).alloc (Nat.le_refl _) _).alloc (by simp) _, ?_, ?_, by simp⟩
    · have h1 := heap_alloc_new w (.cells #[.int .i64 c0, .int .i64 c1, .int .i64 c2, .int .i64 c3, .int .i64 c4, .int .i64 c5, .int .i64 c6, .int .i64 c7, .int .i64 c8, .int .i64 c9, .int .i64 c10] 25)
      exact (Lib.alloc_old _ _ w.heap.size (by simp)).trans h1
    · have h1 := heap_alloc_new (w.alloc (.cells #[.int .i64 c0, .int .i64 c1, .int .i64 c2, .int .i64 c3, .int .i64 c4, .int .i64 c5, .int .i64 c6, .int .i64 c7, .int .i64 c8, .int .i64 c9, .int .i64 c10] 25)) (.cells #[.int .i64 c1, .int .i64 c2, .int .i64 c3, .int .i64 c4, .int .i64 c5, .int .i64 c6, .int .i64 c7, .int .i64 c8] 23)
      rw [World.size_alloc] at h1
      exact h1
  obtain ⟨a0, a1, a2, a3, a4, a5, a6, a7, a8, a9, a10⟩ := HV.out.2.1.row
  have o0 : V.cell? ⟨X + 1, 0, none⟩ = some (.int .i64 c1) := by simp [World.cell?, HV.out.2.2.1]
  have o1 : V.cell? ⟨X + 1, 1, none⟩ = some (.int .i64 c2) := by simp [World.cell?, HV.out.2.2.1]
  have o2 : V.cell? ⟨X + 1, 2, none⟩ = some (.int .i64 c3) := by simp [World.cell?, HV.out.2.2.1]
  have o3 : V.cell? ⟨X + 1, 3, none⟩ = some (.int .i64 c4) := by simp [World.cell?, HV.out.2.2.1]
  have o4 : V.cell? ⟨X + 1, 4, none⟩ = some (.int .i64 c5) := by simp [World.cell?, HV.out.2.2.1]
  have o5 : V.cell? ⟨X + 1, 5, none⟩ = some (.int .i64 c6) := by simp [World.cell?, HV.out.2.2.1]
  have o6 : V.cell? ⟨X + 1, 6, none⟩ = some (.int .i64 c7) := by simp [World.cell?, HV.out.2.2.1]
  have o7 : V.cell? ⟨X + 1, 7, none⟩ = some (.int .i64 c8) := by simp [World.cell?, HV.out.2.2.1]
  rw [← hX]
  go_enter Tryd.func19, Tryd.ntmps19
  go_upto_region 2 with fail
  simp only [← hX]
  simp only [← hV]
  clear hX hV
  have HBV : Hid (∀ W', Below V.heap.size V W' → Below X w W') := fun W' h => HV.out.1.trans (h.mono (by have := HV.out.2.2.2; omega))
  by_cases h1 : c0 = 1
  · subst h1
    have HC := hidW (ord.check_any ⟨c1, c2, c3, c4, c5, c6, c7, c8⟩ V)
    have HE1 : Hid (E = chk ⟨c1, c2, c3, c4, c5, c6, c7, c8⟩) := HE.out
    clear HE
    go_wp2_with (go_at_call 32; refine HC.out.mono ?_; rintro e w1 ⟨rfl, hb1⟩)
    go_ret
    exact ⟨by rw [HE1.out]; rfl, HBV.out _ hb1⟩
  by_cases h2 : c0 = 2
  · subst h2
    obtain ⟨r, hr⟩ : ∃ r, r = [(c1, (1 : Int), (9999 : Int))].any spanB := ⟨_, rfl⟩
    have HR : Hid ([(c1, (1 : Int), (9999 : Int))].any spanB = r) := hr.symm
    have HE1 : Hid (rangeE r = E) := by rw [HE.out, hr]; exact range1 _ _ _
    clear HE hr
    go_wp2_with (first | (go_at_call 34; refine (id_any _ _).mono ?_; rintro e w1 ⟨rfl, hb1⟩) | (go_at_call 33; refine (scheck1 r _ _ _ _ _ rfl HR.out).mono ?_; rintro e w2 ⟨rfl, hb2⟩))
    go_ret
    exact ⟨by rw [HE1.out]; rfl, HBV.out _ (hb1.trans (hb2.mono hb1.size))⟩
  by_cases h3 : c0 = 3
  · subst h3
    obtain ⟨r, hr⟩ : ∃ r, r = [(c1, (1 : Int), (9999 : Int)), (c5, 1, 10000), (c6, 1, 10000)].any spanB := ⟨_, rfl⟩
    have HR : Hid ([(c1, (1 : Int), (9999 : Int)), (c5, 1, 10000), (c6, 1, 10000)].any spanB = r) := hr.symm
    have HE1 : Hid (rangeE r = E) := by rw [HE.out, hr]; exact range3 _ _ _ _ _ _ _ _ _
    go_upto_region 8 with fail
    clear HE hr a0 a1 a2 a3 a4 a5 a6 a7 a8 a9 a10 o1 o2 o3 o6 o7
    have SO : Hid (∀ W, Below V.heap.size V W → (Below V.heap.size V W ∧ W.cell? ⟨X + 1, 0, none⟩ = some (.int .i64 c1) ∧ W.cell? ⟨X + 1, 4, none⟩ = some (.int .i64 c5) ∧ W.cell? ⟨X + 1, 5, none⟩ = some (.int .i64 c6))) := fun W hW => ⟨hW, keeps hW o0, keeps hW o4, keeps hW o5⟩
    go_region_held3 (fun W => Below V.heap.size V W ∧ W.cell? ⟨X + 1, 0, none⟩ = some (.int .i64 c1) ∧ W.cell? ⟨X + 1, 4, none⟩ = some (.int .i64 c5) ∧ W.cell? ⟨X + 1, 5, none⟩ = some (.int .i64 c6))
      ((refine SO.out _ ?_; (repeat' (first | with_reducible assumption | with_reducible refine ord.bal ?_ _ | with_reducible refine Below.drew ?_ | with_reducible exact Below.refl _ _ | with_reducible exact Nat.le_refl _))))
      (first | (go_at_call 34; refine (ord.id_V V _ _ ?_).mono ?_; (repeat' (first | with_reducible assumption | with_reducible refine ord.bal ?_ _ | with_reducible refine Below.drew ?_ | with_reducible exact Below.refl _ _ | with_reducible exact Nat.le_refl _)); rintro e W1 ⟨rfl, hbn⟩) | (go_at_call 36; refine (ord.qty_V V _ _ ?_).mono ?_; (repeat' (first | with_reducible assumption | with_reducible refine ord.bal ?_ _ | with_reducible refine Below.drew ?_ | with_reducible exact Below.refl _ _ | with_reducible exact Nat.le_refl _)); rintro e W1 ⟨rfl, hbn⟩) | (go_at_call 35; refine (price_V V _ _ ?_).mono ?_; (repeat' (first | with_reducible assumption | with_reducible refine ord.bal ?_ _ | with_reducible refine Below.drew ?_ | with_reducible exact Below.refl _ _ | with_reducible exact Nat.le_refl _)); rintro e W1 ⟨rfl, hbn⟩) | (go_at_call 33; refine (scheck3 r _ _ _ _ _ _ _ _ _ _ _ rfl HR.out).mono ?_; rintro e W2 ⟨rfl, hbs⟩; have hbn := hbn.trans (hbs.mono hbn.size)))
    all_goals
      go_wp2_with fail
      go_ret
      exact ⟨by rw [HE1.out]; rfl, HBV.out _ (by assumption)⟩
  by_cases h45 : c0 = 4 ∨ c0 = 5
  · obtain ⟨r, hr⟩ : ∃ r, r = [(c9, (1 : Int), (9 : Int)), (c10, 1, 1000000000)].any spanB := ⟨_, rfl⟩
    have HR : Hid ([(c9, (1 : Int), (9 : Int)), (c10, 1, 1000000000)].any spanB = r) := hr.symm
    have HE1 : Hid (rangeE r = E) := by
      have : wchk [c0, c1, c2, c3, c4, c5, c6, c7, c8, c9, c10] = (if inB c9 1 9 && inB c10 1 1000000000 then 0 else 1) := by
        show (if c0 = 1 then _ else if c0 = 2 then _ else if c0 = 3 then _ else if c0 = 4 ∨ c0 = 5 then _ else _) = _
        rw [if_neg h1, if_neg h2, if_neg h3, if_pos h45]
        rfl
      rw [HE.out, this, hr]; exact range2 _ _ _ _ _ _
    clear HE hr a1 a2 a3 a4 a5 a6 a7 a8 o0 o1 o2 o3 o4 o5 o6 o7
    have SO : Hid (∀ W, Below V.heap.size V W → (Below V.heap.size V W ∧ W.cell? ⟨X, 9, none⟩ = some (.int .i64 c9) ∧ W.cell? ⟨X, 10, none⟩ = some (.int .i64 c10))) := fun W hW => ⟨hW, keeps hW a9, keeps hW a10⟩
    rcases h45 with rfl | rfl
    · go_upto_region 11 with fail
      go_region_held3 (fun W => Below V.heap.size V W ∧ W.cell? ⟨X, 9, none⟩ = some (.int .i64 c9) ∧ W.cell? ⟨X, 10, none⟩ = some (.int .i64 c10))
        ((refine SO.out _ ?_; (repeat' (first | with_reducible assumption | with_reducible refine ord.bal ?_ _ | with_reducible refine Below.drew ?_ | with_reducible exact Below.refl _ _ | with_reducible exact Nat.le_refl _))))
        (first | (go_at_call 37; refine (ord.who_V V _ _ ?_).mono ?_; (repeat' (first | with_reducible assumption | with_reducible refine ord.bal ?_ _ | with_reducible refine Below.drew ?_ | with_reducible exact Below.refl _ _ | with_reducible exact Nat.le_refl _)); rintro e W1 ⟨rfl, hbn⟩) | (go_at_call 38; refine (ord.of_V V _ _ _ _ ?_).mono ?_; (repeat' (first | with_reducible assumption | with_reducible refine ord.bal ?_ _ | with_reducible refine Below.drew ?_ | with_reducible exact Below.refl _ _ | with_reducible exact Nat.le_refl _)); rintro e W1 ⟨rfl, hbn⟩) | (go_at_call 33; refine (scheck2 r _ _ _ _ _ _ _ _ rfl HR.out).mono ?_; rintro e W2 ⟨rfl, hbs⟩; have hbn := hbn.trans (hbs.mono hbn.size)))
      all_goals
        go_wp2_with fail
        go_ret
        exact ⟨by rw [HE1.out]; rfl, HBV.out _ (by assumption)⟩
    · go_upto_region 11 with fail
      go_region_held3 (fun W => Below V.heap.size V W ∧ W.cell? ⟨X, 9, none⟩ = some (.int .i64 c9) ∧ W.cell? ⟨X, 10, none⟩ = some (.int .i64 c10))
        ((refine SO.out _ ?_; (repeat' (first | with_reducible assumption | with_reducible refine ord.bal ?_ _ | with_reducible refine Below.drew ?_ | with_reducible exact Below.refl _ _ | with_reducible exact Nat.le_refl _))))
        (first | (go_at_call 37; refine (ord.who_V V _ _ ?_).mono ?_; (repeat' (first | with_reducible assumption | with_reducible refine ord.bal ?_ _ | with_reducible refine Below.drew ?_ | with_reducible exact Below.refl _ _ | with_reducible exact Nat.le_refl _)); rintro e W1 ⟨rfl, hbn⟩) | (go_at_call 38; refine (ord.of_V V _ _ _ _ ?_).mono ?_; (repeat' (first | with_reducible assumption | with_reducible refine ord.bal ?_ _ | with_reducible refine Below.drew ?_ | with_reducible exact Below.refl _ _ | with_reducible exact Nat.le_refl _)); rintro e W1 ⟨rfl, hbn⟩) | (go_at_call 33; refine (scheck2 r _ _ _ _ _ _ _ _ rfl HR.out).mono ?_; rintro e W2 ⟨rfl, hbs⟩; have hbn := hbn.trans (hbs.mono hbn.size)))
      all_goals
        go_wp2_with fail
        go_ret
        exact ⟨by rw [HE1.out]; rfl, HBV.out _ (by assumption)⟩
  · have h4 : ¬ c0 = 4 := fun e => h45 (.inl e)
    have h5 : ¬ c0 = 5 := fun e => h45 (.inr e)
    have HE1 : Hid (E = 1) := by
      rw [HE.out]
      show (if c0 = 1 then _ else if c0 = 2 then _ else if c0 = 3 then _ else if c0 = 4 ∨ c0 = 5 then _ else _) = _
      rw [if_neg h1, if_neg h2, if_neg h3, if_neg h45]
    clear HE h45
    go_wp2_with fail
    go_ret
    exact ⟨by rw [HE1.out]; rfl, HBV.out _ (Below.refl _ _)⟩
theorem written_any (xs : List Int) (hl : xs.length = 11) (w : World) :
    Calls Tryd.prog 19 #[cV xs] w fun e w' => e = .returned (errV (wchk xs)) ∧ Below w.heap.size w w' := by
  obtain ⟨c0, c1, c2, c3, c4, c5, c6, c7, c8, c9, c10, rfl⟩ := list11' hl
  exact written_walk c0 c1 c2 c3 c4 c5 c6 c7 c8 c9 c10 w
end Go.Proofs.YtndkabnmffgebaaDoor.wir
