/- Contracts over this seat's translation: the document's EventText. -/
import Derived.Test.YtgpbpaimfhlnhaaDoorTapTxt
namespace Go.Proofs.YtgpbpaimfhlnhaaDoor.tap
open Go.RowKit Go.Proofs.YtgpbpaimfhlnhaaDoor.mee Go.Proofs.YtgpbpaimfhlnhaaDoor.flr Go.Proofs.YtgpbpaimfhlnhaaDoor.bld

theorem dig5 (n : Int) (w : World) (h : 0 ≤ n ∧ n ≤ 99999) : Calls Tryd.prog 19 #[.int .i64 n] w fun e w' => e = .returned (.string ⟨(dec n).toArray⟩) ∧ w' = w :=
  digits_any 4 n w h.1 (by have : (10 : Int) ^ (4 + 1) = 100000 := rfl; omega) (Nat.le_refl _)
set_option maxRecDepth 100000 in
theorem text_two (e2 e3 e4 t1 t2 t3 t4 t5 t6 : Int) (w : World) (h : evB ⟨2, e2, e3, e4, ⟨t1, t2, t3, t4, t5, t6⟩⟩ = true) :
    Calls Tryd.prog 9 #[.agg #[.int .i64 2, .int .i64 e2, .int .i64 e3, .int .i64 e4, .int .i64 t1, .int .i64 t2, .int .i64 t3, .int .i64 t4, .int .i64 t5, .int .i64 t6]] w fun e w' => e = .returned (.string ⟨(eTxt ⟨2, e2, e3, e4, ⟨t1, t2, t3, t4, t5, t6⟩⟩).toArray⟩) ∧ Below w.heap.size w w' := by
  have hB : Below w.heap.size w (w.alloc (.cells #[.int .i64 2, .int .i64 e2, .int .i64 e3, .int .i64 e4, .int .i64 t1, .int .i64 t2, .int .i64 t3, .int .i64 t4, .int .i64 t5, .int .i64 t6] 33)) := (Below.refl _ _).alloc (Nat.le_refl _) _
  have hn := (nums_ok h).2
  rw [show nums ⟨2, e2, e3, e4, ⟨t1, t2, t3, t4, t5, t6⟩⟩ = [t1, t2, t6, t5] from rfl] at hn
  have h1 := hn t1 (by simp)
  have h2 := hn t2 (by simp)
  have h3 := hn t6 (by simp)
  have h4 := hn t5 (by simp)
  have D1 := hidT (fun W => dig5 t1 W h1)
  have D2 := hidT (fun W => dig5 t2 W h2)
  have D3 := hidT (fun W => dig5 t6 W h3)
  have D4 := hidT (fun W => dig5 t5 W h4)
  obtain ⟨x, hx⟩ : ∃ x, dec t1 = x := ⟨_, rfl⟩
  obtain ⟨y, hy⟩ : ∃ y, dec t2 = y := ⟨_, rfl⟩
  obtain ⟨z, hz⟩ : ∃ z, dec t6 = z := ⟨_, rfl⟩
  obtain ⟨u, hu⟩ : ∃ u, dec t5 = u := ⟨_, rfl⟩
  have lx : x.length ≤ 5 := by rw [← hx]; exact dec_short h1.1 h1.2
  have ly : y.length ≤ 5 := by rw [← hy]; exact dec_short h2.1 h2.2
  have lz : z.length ≤ 5 := by rw [← hz]; exact dec_short h3.1 h3.2
  have lu : u.length ≤ 5 := by rw [← hu]; exact dec_short h4.1 h4.2
  have HT : Hid (eTxt ⟨2, e2, e3, e4, ⟨t1, t2, t3, t4, t5, t6⟩⟩ = [116, 114, 97, 100, 101, 100] ++ ([32] ++ x ++ ([32] ++ y ++ ([32] ++ z ++ ([32] ++ u))))) := by rw [← hx, ← hy, ← hz, ← hu]; show eTxt _ = _; simp [eTxt, nums, wordB, nTxt]
  rw [hx] at D1
  rw [hy] at D2
  rw [hz] at D3
  rw [hu] at D4
  have g1 : ¬ 9223372036854775807 < 7 + x.length := by omega
  have g2 : ¬ 9223372036854775807 < 7 + x.length + 1 := by omega
  have g3 : ¬ 9223372036854775807 < 7 + x.length + 1 + y.length := by omega
  have g4 : ¬ 9223372036854775807 < 7 + x.length + 1 + y.length + 1 := by omega
  have g5 : ¬ 9223372036854775807 < 7 + x.length + 1 + y.length + 1 + z.length := by omega
  have g6 : ¬ 9223372036854775807 < 7 + x.length + 1 + y.length + 1 + z.length + 1 := by omega
  have g7 : ¬ 9223372036854775807 < 7 + x.length + 1 + y.length + 1 + z.length + 1 + u.length := by omega
  clear h hn h1 h2 h3 h4 hx hy hz hu lx ly lz lu
  go_enter Tryd.func9, Tryd.ntmps9
  go_wp2_with fail
  refine (D1.out _).mono ?_
  rintro e w1 ⟨rfl, rfl⟩
  go_wp2_with fail
  refine (D2.out _).mono ?_
  rintro e w2 ⟨rfl, rfl⟩
  go_wp2_with fail
  refine (D3.out _).mono ?_
  rintro e w3 ⟨rfl, rfl⟩
  go_wp2_with fail
  refine (D4.out _).mono ?_
  rintro e w4 ⟨rfl, rfl⟩
  go_wp2_with fail
  go_ret
  refine ⟨?_, hB⟩
  rw [HT.out]
  refine congrArg Ending.returned (congrArg Value.string ?_)
  apply str_ext
  simp
set_option maxRecDepth 100000 in
theorem text_one (e2 e3 e4 t1 t2 t3 t4 t5 t6 : Int) (w : World) (h : evB ⟨1, e2, e3, e4, ⟨t1, t2, t3, t4, t5, t6⟩⟩ = true) :
    Calls Tryd.prog 9 #[.agg #[.int .i64 1, .int .i64 e2, .int .i64 e3, .int .i64 e4, .int .i64 t1, .int .i64 t2, .int .i64 t3, .int .i64 t4, .int .i64 t5, .int .i64 t6]] w fun e w' => e = .returned (.string ⟨(eTxt ⟨1, e2, e3, e4, ⟨t1, t2, t3, t4, t5, t6⟩⟩).toArray⟩) ∧ Below w.heap.size w w' := by
  have hB : Below w.heap.size w (w.alloc (.cells #[.int .i64 1, .int .i64 e2, .int .i64 e3, .int .i64 e4, .int .i64 t1, .int .i64 t2, .int .i64 t3, .int .i64 t4, .int .i64 t5, .int .i64 t6] 33)) := (Below.refl _ _).alloc (Nat.le_refl _) _
  have hn := (nums_ok h).2
  rw [show nums ⟨1, e2, e3, e4, ⟨t1, t2, t3, t4, t5, t6⟩⟩ = [e2, e3, e4] from rfl] at hn
  have h1 := hn e2 (by simp)
  have h2 := hn e3 (by simp)
  have h3 := hn e4 (by simp)
  have D1 := hidT (fun W => dig5 e2 W h1)
  have D2 := hidT (fun W => dig5 e3 W h2)
  have D3 := hidT (fun W => dig5 e4 W h3)
  obtain ⟨x, hx⟩ : ∃ x, dec e2 = x := ⟨_, rfl⟩
  obtain ⟨y, hy⟩ : ∃ y, dec e3 = y := ⟨_, rfl⟩
  obtain ⟨z, hz⟩ : ∃ z, dec e4 = z := ⟨_, rfl⟩
  have lx : x.length ≤ 5 := by rw [← hx]; exact dec_short h1.1 h1.2
  have ly : y.length ≤ 5 := by rw [← hy]; exact dec_short h2.1 h2.2
  have lz : z.length ≤ 5 := by rw [← hz]; exact dec_short h3.1 h3.2
  have HT : Hid (eTxt ⟨1, e2, e3, e4, ⟨t1, t2, t3, t4, t5, t6⟩⟩ = [114, 101, 115, 116, 101, 100] ++ ([32] ++ x ++ ([32] ++ y ++ ([32] ++ z)))) := by rw [← hx, ← hy, ← hz]; show eTxt _ = _; simp [eTxt, nums, wordB, nTxt]
  rw [hx] at D1
  rw [hy] at D2
  rw [hz] at D3
  have g1 : ¬ 9223372036854775807 < 7 + x.length := by omega
  have g2 : ¬ 9223372036854775807 < 7 + x.length + 1 := by omega
  have g3 : ¬ 9223372036854775807 < 7 + x.length + 1 + y.length := by omega
  have g4 : ¬ 9223372036854775807 < 7 + x.length + 1 + y.length + 1 := by omega
  have g5 : ¬ 9223372036854775807 < 7 + x.length + 1 + y.length + 1 + z.length := by omega
  clear h hn h1 h2 h3 hx hy hz lx ly lz
  go_enter Tryd.func9, Tryd.ntmps9
  go_wp2_with fail
  refine (D1.out _).mono ?_
  rintro e w1 ⟨rfl, rfl⟩
  go_wp2_with fail
  refine (D2.out _).mono ?_
  rintro e w2 ⟨rfl, rfl⟩
  go_wp2_with fail
  refine (D3.out _).mono ?_
  rintro e w3 ⟨rfl, rfl⟩
  go_wp2_with fail
  go_ret
  refine ⟨?_, hB⟩
  rw [HT.out]
  refine congrArg Ending.returned (congrArg Value.string ?_)
  apply str_ext
  simp
set_option maxRecDepth 100000 in
theorem text_rest (k : Int) (hk : k = 3 ∨ k = 4 ∨ k = 5) (e2 e3 e4 t1 t2 t3 t4 t5 t6 : Int) (w : World) (h : evB ⟨k, e2, e3, e4, ⟨t1, t2, t3, t4, t5, t6⟩⟩ = true) :
    Calls Tryd.prog 9 #[.agg #[.int .i64 k, .int .i64 e2, .int .i64 e3, .int .i64 e4, .int .i64 t1, .int .i64 t2, .int .i64 t3, .int .i64 t4, .int .i64 t5, .int .i64 t6]] w fun e w' => e = .returned (.string ⟨(eTxt ⟨k, e2, e3, e4, ⟨t1, t2, t3, t4, t5, t6⟩⟩).toArray⟩) ∧ Below w.heap.size w w' := by
  have hB : Below w.heap.size w (w.alloc (.cells #[.int .i64 k, .int .i64 e2, .int .i64 e3, .int .i64 e4, .int .i64 t1, .int .i64 t2, .int .i64 t3, .int .i64 t4, .int .i64 t5, .int .i64 t6] 33)) := (Below.refl _ _).alloc (Nat.le_refl _) _
  have hob : (0 ≤ e2 ∧ e2 ≤ 99999) ∧ 0 ≤ e3 ∧ e3 ≤ 99999 := by
    unfold evB at h
    rw [if_neg (by simp only; omega)] at h
    simp [otB] at h
    omega
  obtain ⟨h1, h2⟩ := hob
  have D1 := hidT (fun W => dig5 e2 W h1)
  have D2 := hidT (fun W => dig5 e3 W h2)
  obtain ⟨x, hx⟩ : ∃ x, dec e2 = x := ⟨_, rfl⟩
  obtain ⟨y, hy⟩ : ∃ y, dec e3 = y := ⟨_, rfl⟩
  have lx : x.length ≤ 5 := by rw [← hx]; exact dec_short h1.1 h1.2
  have ly : y.length ≤ 5 := by rw [← hy]; exact dec_short h2.1 h2.2
  have g1 : ¬ 9223372036854775807 < 5 + x.length := by omega
  have g2 : ¬ 9223372036854775807 < 5 + x.length + 1 := by omega
  have g3 : ¬ 9223372036854775807 < 5 + x.length + 1 + y.length := by omega
  have g4 : ¬ 9223372036854775807 < 6 + x.length := by omega
  have g5 : ¬ 9223372036854775807 < 9 + x.length := by omega
  clear h h1 h2 lx ly
  rcases hk with rfl | rfl | rfl
  · have HT : Hid (eTxt ⟨3, e2, e3, e4, ⟨t1, t2, t3, t4, t5, t6⟩⟩ = [103, 111, 110, 101] ++ ([32] ++ x ++ ([32] ++ y))) := by rw [← hx, ← hy]; show eTxt _ = _; simp [eTxt, nums, wordB, nTxt]
    rw [hx] at D1
    rw [hy] at D2
    clear hx hy
    go_enter Tryd.func9, Tryd.ntmps9
    go_wp2_with fail
    refine (D1.out _).mono ?_
    rintro e w1 ⟨rfl, rfl⟩
    go_wp2_with fail
    refine (D2.out _).mono ?_
    rintro e w2 ⟨rfl, rfl⟩
    go_wp2_with fail
    go_ret
    refine ⟨?_, hB⟩
    rw [HT.out]
    refine congrArg Ending.returned (congrArg Value.string ?_)
    apply str_ext
    simp
  · have HT : Hid (eTxt ⟨4, e2, e3, e4, ⟨t1, t2, t3, t4, t5, t6⟩⟩ = [119, 111, 107, 101, 110] ++ ([32] ++ x)) := by rw [← hx]; show eTxt _ = _; simp [eTxt, nums, wordB, nTxt]
    rw [hx] at D1
    rw [hy] at D2
    clear hx hy
    go_enter Tryd.func9, Tryd.ntmps9
    go_wp2_with fail
    refine (D1.out _).mono ?_
    rintro e w1 ⟨rfl, rfl⟩
    go_wp2_with fail
    refine (D2.out _).mono ?_
    rintro e w2 ⟨rfl, rfl⟩
    go_wp2_with fail
    go_ret
    refine ⟨?_, hB⟩
    rw [HT.out]
    refine congrArg Ending.returned (congrArg Value.string ?_)
    apply str_ext
    simp
  · have HT : Hid (eTxt ⟨5, e2, e3, e4, ⟨t1, t2, t3, t4, t5, t6⟩⟩ = [115, 108, 101, 101, 112, 105, 110, 103] ++ ([32] ++ x)) := by rw [← hx]; show eTxt _ = _; simp [eTxt, nums, wordB, nTxt]
    rw [hx] at D1
    rw [hy] at D2
    clear hx hy
    go_enter Tryd.func9, Tryd.ntmps9
    go_wp2_with fail
    refine (D1.out _).mono ?_
    rintro e w1 ⟨rfl, rfl⟩
    go_wp2_with fail
    refine (D2.out _).mono ?_
    rintro e w2 ⟨rfl, rfl⟩
    go_wp2_with fail
    go_ret
    refine ⟨?_, hB⟩
    rw [HT.out]
    refine congrArg Ending.returned (congrArg Value.string ?_)
    apply str_ext
    simp
theorem rtext_any (x : Ev) (w : World) (h : evB x = true) :
    Calls Tryd.prog 9 #[.agg (evL x).toArray] w fun e w' => e = .returned (.string ⟨(eTxt x).toArray⟩) ∧ Below w.heap.size w w' := by
  have hr := ev_range h
  obtain ⟨e1, e2, e3, e4, ⟨t1, t2, t3, t4, t5, t6⟩⟩ := x
  simp only at hr
  by_cases h1 : e1 = 1
  · subst h1; exact text_one e2 e3 e4 t1 t2 t3 t4 t5 t6 w h
  by_cases h2 : e1 = 2
  · subst h2; exact text_two e2 e3 e4 t1 t2 t3 t4 t5 t6 w h
  · exact text_rest e1 (by omega) e2 e3 e4 t1 t2 t3 t4 t5 t6 w h
end Go.Proofs.YtgpbpaimfhlnhaaDoor.tap
