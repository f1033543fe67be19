/- The walk of QueueFull. -/
import Derived.Test.YtefolhkecgcigaaDoorQuePush
import Derived.Test.YtefolhkecgcigaaDoorQueTake2
import Derived.Test.YtefolhkecgcigaaDoorTold
namespace Go.Proofs.YtefolhkecgcigaaDoor.que
open Go.RowKit Go.Proofs.YtefolhkecgcigaaDoor.spn

/-- So many rests that were pushed. -/
def row (m : Nat) : List R := (List.range m).map fun (j : Nat) => ⟨(j : Int) + 1, 1, 2, 0, 0⟩
theorem row_len (m : Nat) : (row m).length = m := by simp [row]
theorem row_succ (m : Nat) : row (m + 1) = row m ++ [⟨(m : Int) + 1, 1, 2, 0, 0⟩] := by simp [row, List.range_succ]
theorem row_mem {m : Nat} {r : R} (h : r ∈ row m) : ∃ j : Nat, j < m ∧ r = ⟨(j : Int) + 1, 1, 2, 0, 0⟩ := by
  simp only [row, List.mem_map, List.mem_range] at h
  obtain ⟨j, hj, rfl⟩ := h
  exact ⟨j, hj, rfl⟩
theorem one_ok (i : Int) (h1 : 1 ≤ i) (h2 : i ≤ 100) : rchk ⟨i, 1, 2, 0, 0⟩ = 0 :=
  rchk_of ⟨by simp, by simp, by simp, fun _ => rfl, fun h => absurd rfl h, ⟨h1, by show i ≤ 9999; omega⟩, by simp⟩
theorem row_good (m : Nat) (h : m ≤ 60) : Good (row m) := by
  refine ⟨?_, ?_⟩
  · intro r hr
    obtain ⟨j, hj, rfl⟩ := row_mem hr
    exact one_ok _ (by omega) (by omega)
  · induction m with
    | zero => simp [row]
    | succ m ih =>
      rw [row_succ, List.map_append, List.nodup_append]
      refine ⟨ih (by omega), by simp, ?_⟩
      intro a ha b hb e
      simp only [List.map_cons, List.map_nil, List.mem_singleton] at hb
      obtain ⟨r, hr, hra⟩ := List.mem_map.1 ha
      obtain ⟨j, hj, rfl⟩ := row_mem hr
      simp only at hra
      omega
theorem row_chk (m : Nat) (h : m ≤ 60) : qchk (row m) = 0 := (qchk_zero _).2 ⟨by rw [row_len]; exact h, row_good m h⟩
theorem row_has (m : Nat) (i : Int) (h : (m : Int) < i) : has i (row m) = false := by
  rw [has_false]
  intro hm
  obtain ⟨r, hr, e⟩ := List.mem_map.1 hm
  obtain ⟨j, hj, rfl⟩ := row_mem hr
  simp only at e
  omega
theorem row_push (m : Nat) (i : Int) (hm : m ≤ 60) (h : (m : Int) < i) (h2 : i ≤ 100) : pchk (row m) ⟨i, 1, 2, 0, 0⟩ = if m = 60 then 4 else 0 := by
  unfold pchk
  rw [if_pos (row_chk m hm), if_pos (bchk_zero.2 ⟨one_ok i (by omega) h2, row_has m i h⟩), row_len]
theorem take_all (zs : List R) : ∀ n : Int, Good zs → (∀ r ∈ zs, r.hid = 0) → tot zs ≤ n → (take n zs).1.length = zs.length ∧ (take n zs).2 = [] := by
  induction zs with
  | nil => intro n _ _ _; rw [take_nil]; exact ⟨rfl, rfl⟩
  | cons r t ih =>
    intro n hg hh ht
    have hq := (rchk_zero (hg.1 r (by simp))).1
    have hr := hh r (by simp)
    obtain ⟨b1, b2⟩ := tot_le t (fun x hx => hg.1 x (by simp [hx]))
    simp only [tot, hr] at ht
    rw [take_cons n r t (by omega) hg]
    have e1 : min n r.qty = r.qty := by omega
    have e2 : tk1 r.qty r t = t := by
      unfold tk1
      rw [if_neg (by omega), if_pos hr]
    simp only [e1, e2]
    obtain ⟨i1, i2⟩ := ih (n - r.qty) (good_tail hg) (fun x hx => hh x (by simp [hx])) (by omega)
    exact ⟨by rw [List.length_cons, i1, List.length_cons], i2⟩
theorem row_tot (m : Nat) : tot (row m) = 2 * (m : Int) := by
  induction m with
  | zero => rfl
  | succ m ih => rw [row_succ, tot_append, ih]; simp only [tot]; omega
theorem row_take (m : Nat) (h : m ≤ 60) : (take 10000 (row m)).1.length = m ∧ (take 10000 (row m)).2 = [] := by
  obtain ⟨h1, h2⟩ := take_all (row m) 10000 (row_good m h) (fun r hr => by obtain ⟨j, _, rfl⟩ := row_mem hr; rfl) (by rw [row_tot]; omega)
  exact ⟨by rw [h1, row_len], h2⟩

theorem OwnM.slf {w : World} {base : Nat} {e : TypeId} {sz : Nat} {v : Value} {n : Nat} {xs : List Value} (h : OwnM w base e sz v n xs) : ∃ p c, v = .slice p n c := by
  rcases h.2 with ⟨rfl, rfl⟩ | ⟨g, off, cap, cur, rfl, _⟩
  · exact ⟨none, 0, rfl⟩
  · exact ⟨_, _, rfl⟩
theorem OwnM.up {w : World} {base base' : Nat} {e : TypeId} {sz : Nat} {v : Value} {n : Nat} {xs : List Value} (h : OwnM w base e sz v n xs) (hb : base' ≤ base) : OwnM w base' e sz v n xs := by
  refine ⟨h.1, ?_⟩
  rcases h.2 with hh | ⟨g, off, cap, cur, e1, e2, e3⟩
  · exact .inl hh
  · exact .inr ⟨g, off, cap, cur, e1, Nat.le_trans hb e2, e3⟩

theorem err_told (B : World) (k e : Int) (w : World) (h : told.Inv B w) :
    Calls Tryd.prog 6 #[errV k, .int .i64 e] w fun ev w' => ev = .returned (.bool (k == e)) ∧ told.Inv B w' ∧ Below w.heap.size w w' :=
  (told.error_any w k e w (told.Inv.start h.laid)).mono fun _ _ h' => ⟨h'.1, h.on h'.2.2, h'.2.2⟩

theorem wrapI (i : Nat) (h : i ≤ 100) : wrap64 ((i : Int) + 1) = ((i + 1 : Nat) : Int) := by unfold wrap64; omega

set_option maxRecDepth 100000 in
set_option maxHeartbeats 1000000 in
theorem full_walk (n : Nat) (B w : World) (hI : told.Inv B w) (h1 : 1 ≤ n) (h2 : n ≤ 70) :
    Calls Tryd.prog 4 #[.int .i64 (n : Int)] w fun e w' => e = .returned (.bool true) ∧ told.Inv B w' := by
  have HI : Hid (told.Inv B w) := hI
  clear hI
  have g1 : ¬ ((n : Int) < 1) := by omega
  have g2 : ¬ (70 < (n : Int)) := by omega
  go_enter Tryd.func4, Tryd.ntmps4
  go_wp2_with fail
  clear g1 g2
  go_loopg [3, 4, 5, 6, 7] n (fun gg s3 s4 _ _ _ wr => ∃ i : Nat, 1 ≤ i ∧ i ≤ n + 1 ∧ n + 1 - i ≤ gg ∧ s4 = .int .i64 i ∧ Aside (OwnQ wr w.heap.size s3 (row (min (i - 1) 60))) ∧ Aside (told.Inv B wr ∧ Below w.heap.size w wr))
  case atStart => exact ⟨1, Nat.le_refl _, by omega, by omega, rfl, ⟨rfl, .inl ⟨rfl, rfl⟩⟩, HI.out, Below.refl _ _⟩
  case round =>
    obtain ⟨i, hi1, hi2, hg, rfl, hO, hW⟩ := hrel
    by_cases hlt : i ≤ n
    · have hltz : (i : Int) ≤ (n : Int) := by omega
      have e1 := wrapI i (by omega)
      have HP := push_any u3 (row (min (i - 1) 60)) (i : Int) 1 2 0 0 wr (OwnQ.sl hO.out)
      rw [row_push (min (i - 1) 60) i (by omega) (by omega) (by omega)] at HP
      by_cases h60 : i ≤ 60
      · rw [if_neg (show ¬ (min (i - 1) 60 = 60) by omega), errV_zero] at HP
        have h60z : (i : Int) ≤ 60 := by omega
        have hrow : row (min (i - 1) 60) ++ [⟨(i : Int), 1, 2, 0, 0⟩] = row (min (i + 1 - 1) 60) := by
          rw [show min (i + 1 - 1) 60 = min (i - 1) 60 + 1 by omega, row_succ, show ((min (i - 1) 60 : Nat) : Int) + 1 = i by omega]
        rw [hrow] at HP
        have HP' : Hid (Calls Tryd.prog 12 #[u3, .agg #[.int .i64 (i : Int), .int .i64 1, .int .i64 2, .int .i64 0, .int .i64 0]] wr fun x w' => ∃ lv, x = .returned (.tuple #[lv, .nilIface]) ∧ OwnQ w' wr.heap.size lv (row (min (i + 1 - 1) 60)) ∧ Below wr.heap.size wr w') := by
          refine HP.mono ?_
          rintro x w' ⟨lv, h1, h2, _, h4⟩
          exact ⟨lv, h1, h2 rfl, h4⟩
        clear HP hrow
        go_wp2_with fail
        refine HP'.out.mono ?_
        rintro x w1 ⟨lv, rfl, hO1, hb1⟩
        have HO1 : Hid (OwnQ w1 w.heap.size lv (row (min (i + 1 - 1) 60))) := hO1.up hW.out.2.size
        have HW1 : Hid (told.Inv B w1 ∧ Below w.heap.size w w1) := ⟨hW.out.1.on hb1, hW.out.2.trans (hb1.mono hW.out.2.size)⟩
        clear hO1 hb1 HP'
        go_wp2_with fail
        refine (err_told B 0 4 w1 HW1.out.1).mono ?_
        rintro x w2 ⟨rfl, hI2, hb2⟩
        have HO2 : Hid (OwnQ w2 w.heap.size lv (row (min (i + 1 - 1) 60))) := HO1.out.below hb2
        have HW2 : Hid (told.Inv B w2 ∧ Below w.heap.size w w2) := ⟨hI2, HW1.out.2.trans (hb2.mono HW1.out.2.size)⟩
        clear hI2 hb2
        go_wp2_with fail
        go_roundg (n + 1 - (i + 1))
        case measure => clear e1; omega
        case rel => exact ⟨i + 1, by omega, by omega, Nat.le_refl _, by go_num, HO2.out, HW2.out⟩
      · rw [if_pos (show min (i - 1) 60 = 60 by omega)] at HP
        have h60z : ¬ ((i : Int) ≤ 60) := by omega
        have h60y : (60 : Int) < (i : Int) := by omega
        have HP' : Hid (Calls Tryd.prog 12 #[u3, .agg #[.int .i64 (i : Int), .int .i64 1, .int .i64 2, .int .i64 0, .int .i64 0]] wr fun x w' => x = .returned (.tuple #[.slice none 0 0, .iface 48 (.int .i64 4)]) ∧ Below wr.heap.size wr w') := by
          refine HP.mono ?_
          rintro x w' ⟨lv, h1, _, h3, h4⟩
          rw [h3 (by decide)] at h1
          exact ⟨h1, h4⟩
        have HO' : Hid (OwnQ wr w.heap.size u3 (row (min (i + 1 - 1) 60))) := by
          rw [show min (i + 1 - 1) 60 = min (i - 1) 60 by omega]
          exact hO.out
        clear HP
        go_wp2_with fail
        refine HP'.out.mono ?_
        rintro x w1 ⟨rfl, hb1⟩
        have HO1 : Hid (OwnQ w1 w.heap.size u3 (row (min (i + 1 - 1) 60))) := HO'.out.below hb1
        have HW1 : Hid (told.Inv B w1 ∧ Below w.heap.size w w1) := ⟨hW.out.1.on hb1, hW.out.2.trans (hb1.mono hW.out.2.size)⟩
        clear hb1 HP' HO'
        go_wp2_with fail
        refine (err_told B 4 4 w1 HW1.out.1).mono ?_
        rintro x w2 ⟨rfl, hI2, hb2⟩
        have HO2 : Hid (OwnQ w2 w.heap.size u3 (row (min (i + 1 - 1) 60))) := HO1.out.below hb2
        have HW2 : Hid (told.Inv B w2 ∧ Below w.heap.size w w2) := ⟨hI2, HW1.out.2.trans (hb2.mono HW1.out.2.size)⟩
        clear hI2 hb2
        go_wp2_with fail
        go_roundg (n + 1 - (i + 1))
        case measure => clear e1; omega
        case rel => exact ⟨i + 1, by omega, by omega, Nat.le_refl _, by go_num, HO2.out, HW2.out⟩
    · have hltz : ¬ ((i : Int) ≤ (n : Int)) := by omega
      have hin : i = n + 1 := by omega
      subst hin
      have hO2 : OwnQ wr w.heap.size u3 (row (min n 60)) := hO.out
      have HT := take_good u3 (row (min n 60)) 10000 wr (OwnQ.sl hO2) (row_chk _ (by omega)) (by decide) (by decide)
      obtain ⟨t1, t2⟩ := row_take (min n 60) (by omega)
      rw [t2] at HT
      obtain ⟨p, c, hv⟩ := hO2.slf
      rw [row_len] at hv
      subst hv
      have HT' : Hid (Calls Tryd.prog 17 #[.slice p (min n 60) c, .int .i64 10000] wr fun x w' => ∃ pf cf pl cl, x = .returned (.tuple #[.slice pf (min n 60) cf, .slice pl 0 cl, .nilIface]) ∧ Below wr.heap.size wr w') := by
        refine HT.mono ?_
        rintro x w' ⟨fv, lv, rfl, hF, hQ, hB⟩
        obtain ⟨pf, cf, rfl⟩ := hF.slf
        obtain ⟨pl, cl, rfl⟩ := hQ.slf
        rw [t1]
        exact ⟨pf, cf, pl, cl, rfl, hB⟩
      clear HT t1 t2 hO2
      generalize min n 60 = M at *
      go_wp2_with fail
      refine HT'.out.mono ?_
      rintro x w1 ⟨pf, cf, pl, cl, rfl, hb1⟩
      have HW1 : Hid (told.Inv B w1) := hW.out.1.on hb1
      clear hb1
      go_wp2_with fail
      go_ret
      exact ⟨rfl, HW1.out⟩

end Go.Proofs.YtefolhkecgcigaaDoor.que
namespace Go.Proofs.YtefolhkecgcigaaDoor.queueFull
open Go.RowKit Go.Proofs.YtefolhkecgcigaaDoor.spn
theorem walk (a0 : Int) (B w : World) (hI : told.Inv B w) :
    Calls Tryd.prog 4 #[.int .i64 a0] w fun e w' => e = .returned (.bool true) ∧ told.Inv B w' := by
  by_cases g1 : a0 < 1
  · go_enter Tryd.func4, Tryd.ntmps4
    go_wp2
    go_ret
    exact ⟨rfl, hI⟩
  by_cases g2 : 70 < a0
  · go_enter Tryd.func4, Tryd.ntmps4
    go_wp2
    go_ret
    exact ⟨rfl, hI⟩
  obtain ⟨n, rfl⟩ : ∃ n : Nat, a0 = (n : Int) := ⟨a0.toNat, by omega⟩
  exact que.full_walk n B w hI (by omega) (by omega)
end Go.Proofs.YtefolhkecgcigaaDoor.queueFull
