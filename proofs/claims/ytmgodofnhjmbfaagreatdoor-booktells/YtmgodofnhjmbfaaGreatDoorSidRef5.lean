/- Contracts over this seat's translation: the document's Price, Side, Ahead. Contracts over this seat's translation: the document's Twice. Contracts over this seat's translation: the document's Flat. -/
import Derived.Test.YtmgodofnhjmbfaaGreatDoorQueRefQ
import Derived.Test.YtmgodofnhjmbfaaGreatDoorSidPut
namespace Go.Proofs.YtmgodofnhjmbfaaGreatDoor.sid
open Go.RowKit Go.Proofs.YtmgodofnhjmbfaaGreatDoor.spn Go.Proofs.YtmgodofnhjmbfaaGreatDoor.que
open Go.Proofs.YtmgodofnhjmbfaaGreatDoor.tickP (priceB sideB betOk betR)

theorem rprice_any (p : Int) (w : World) : Calls Tryz.prog 41 #[.int .i64 p] w fun e w' => e = .returned (.bool (priceB p)) ∧ w' = w := by
  have e : priceB p = (decide (1 ≤ p) && decide (p ≤ 10000)) := rfl
  rw [e]
  by_cases h1 : 1 ≤ p
  · by_cases h2 : p ≤ 10000
    · rw [decide_eq_true h1, decide_eq_true h2]
      go_enter Tryz.func41, Tryz.ntmps41
      go_wp2
      go_ret
      exact ⟨rfl, rfl⟩
    · rw [decide_eq_true h1, decide_eq_false h2]
      go_enter Tryz.func41, Tryz.ntmps41
      go_wp2
      go_ret
      exact ⟨rfl, rfl⟩
  · rw [decide_eq_false h1]
    go_enter Tryz.func41, Tryz.ntmps41
    go_wp2
    go_ret
    exact ⟨rfl, rfl⟩
theorem rside_any (s : Int) (w : World) : Calls Tryz.prog 12 #[.int .i64 s] w fun e w' => e = .returned (.bool (sideB s)) ∧ w' = w := by
  have e : sideB s = (decide (s = 1) || decide (s = 2)) := rfl
  rw [e]
  by_cases h1 : s = 1
  · subst h1
    go_enter Tryz.func12, Tryz.ntmps12
    go_wp2
    go_ret
    exact ⟨rfl, rfl⟩
  · by_cases h2 : s = 2
    · subst h2
      go_enter Tryz.func12, Tryz.ntmps12
      go_wp2
      go_ret
      exact ⟨rfl, rfl⟩
    · have b1 : (s == 1) = false := by simp [h1]
      have b2 : (s == 2) = false := by simp [h2]
      rw [decide_eq_false h1, decide_eq_false h2]
      go_enter Tryz.func12, Tryz.ntmps12
      go_wp2
      go_ret
      exact ⟨rfl, rfl⟩
theorem retB {a b : Bool} (h : a = b) : Ending.returned (.bool a) = .returned (.bool b) := by rw [h]
/-- Is a price better than another one for who comes from a side? -/
def aheadB (s a b : Int) : Bool := if s = 1 then decide (a < b) else if s = 2 then decide (b < a) else false
theorem ref_ahead (s a b : Int) (w : World) :
    Calls Tryz.prog 43 #[.int .i64 s, .int .i64 a, .int .i64 b] w fun e w' => e = .returned (.bool (aheadB s a b)) ∧ w' = w := by
  by_cases h : s = 1
  · subst h
    by_cases hab : a < b
    all_goals
      go_enter Tryz.func43, Tryz.ntmps43
      go_wp2
      go_ret
      exact ⟨retB (by simp [aheadB, hab]), rfl⟩
  · have h1 : (s == 1) = false := by simp; omega
    by_cases h2 : s = 2
    · subst h2
      go_enter Tryz.func43, Tryz.ntmps43
      go_wp2
      go_ret
      exact ⟨retB (by simp [aheadB]), rfl⟩
    · have h3 : (s == 2) = false := by simp; omega
      go_enter Tryz.func43, Tryz.ntmps43
      go_wp2
      go_ret
      exact ⟨retB (by simp [aheadB, h, h2]), rfl⟩
/-- At prices that may be, the document's order is the program's. -/
theorem ahead_lead {s a b : Int} (hs : sideB s = true) (ha : priceB a = true) (hb : priceB b = true) : aheadB (wrap64 (3 - s)) a b = leadB s a b := by
  simp [sideB] at hs
  rcases hs with rfl | rfl
  · have e : wrap64 (3 - 1) = 2 := by unfold wrap64; omega
    unfold leadB betR betOk aheadB
    rw [e, ha, hb]; simp [sideB]
  · have e : wrap64 (3 - 2) = 1 := by unfold wrap64; omega
    unfold leadB betR betOk aheadB
    rw [e, ha, hb]; simp [sideB]
end Go.Proofs.YtmgodofnhjmbfaaGreatDoor.sid
namespace Go.Proofs.YtmgodofnhjmbfaaGreatDoor.sid
open Go.RowKit Go.Proofs.YtmgodofnhjmbfaaGreatDoor.spn Go.Proofs.YtmgodofnhjmbfaaGreatDoor.que

def idsR (zs : List R) : List Int := zs.map (·.id)
theorem nodup_more {zs : List R} {k : Nat} (hk : k < zs.length) {r : R} (hr : zs[k]! = r) (h : (idsR (zs.take k)).Nodup) (hx : ¬ 0 ≤ idx r.id (zs.take k)) : (idsR (zs.take (k + 1))).Nodup := by
  have h1 : has r.id (zs.take k) = false := by rw [has_idx, decide_eq_false hx]
  rw [has_false] at h1
  unfold idsR at h ⊢
  rw [take_at hk, hr, List.map_append, List.nodup_append]
  refine ⟨h, by simp, ?_⟩
  intro a ha b hb e
  simp at hb
  rw [e, hb] at ha
  exact h1 ha
theorem nodup_not {zs : List R} {k : Nat} (hk : k < zs.length) {r : R} (hr : zs[k]! = r) (hx : 0 ≤ idx r.id (zs.take k)) : ¬ (idsR zs).Nodup := by
  intro h
  have h1 : ¬ has r.id (zs.take k) = false := by rw [has_idx, decide_eq_true hx]; simp
  rw [has_false] at h1
  apply h1
  intro hm
  have e : idsR zs = (zs.take k).map (·.id) ++ (zs.drop k).map (·.id) := by unfold idsR; rw [← List.map_append, List.take_append_drop]
  rw [e, List.nodup_append] at h
  exact h.2.2 _ hm _ (by rw [drop_at hk, hr]; simp) rfl

set_option maxRecDepth 100000 in
set_option maxHeartbeats 1000000 in
theorem rtwice_some (b o c : Nat) (zs : List R) (w : World) (hb : b < w.heap.size) (hc : zs.length ≤ c) (hm : c ≤ 9223372036854775807) (hl : Lies w b o zs) :
    Calls Tryz.prog 44 #[.slice (some ⟨b, o, none⟩) zs.length c] w fun e w' => e = .returned (.bool (decide (¬ (idsR zs).Nodup))) ∧ Below w.heap.size w w' := by
  generalize hT : decide (¬ (idsR zs).Nodup) = T
  have HT : Hid (decide (¬ (idsR zs).Nodup) = T) := hT
  clear hT
  have HL : Hid (Lies w b o zs) := hl
  clear hl
  generalize hn : zs.length = n at *
  have HN : Hid (zs.length = n) := hn
  clear hn
  go_enter Tryz.func44, Tryz.ntmps44
  go_wp2_with fail
  go_loopg [3] n (fun gg s3 wr => ∃ kk : Nat, kk ≤ n ∧ n - kk ≤ gg ∧ s3 = .int .i64 kk ∧ Aside (Below w.heap.size w wr) ∧ Aside ((idsR (zs.take kk)).Nodup))
  case atStart => exact ⟨0, Nat.zero_le _, by omega, rfl, Below.refl _ _, by rw [List.take_zero]; exact List.nodup_nil⟩
  case round =>
    obtain ⟨kk, hkk, hg, rfl, BW, A⟩ := hrel
    by_cases hlt : kk < n
    · have hltz : (kk : Int) < (n : Int) := by omega
      have hlz : kk < zs.length := by rw [HN.out]; exact hlt
      obtain ⟨r, hr⟩ : ∃ r, zs[kk]! = r := ⟨_, rfl⟩
      have hmore := nodup_more hlz hr A.out
      have hnot := nodup_not hlz hr
      obtain ⟨r1, r2, r3, r4, r5⟩ := r
      obtain ⟨c0, c1, c2, c3, c4⟩ := lies_at (HL.out.below hb BW.out) hlz hr
      simp only [] at hmore hnot
      have HMORE : Hid (¬ 0 ≤ idx r1 (zs.take kk) → (idsR (zs.take (kk + 1))).Nodup) := hmore
      have HNOT : Hid (0 ≤ idx r1 (zs.take kk) → ¬ (idsR zs).Nodup) := hnot
      have hin1 : ¬ ((kk : Int) < 0) := by omega
      have hkc : ¬ ((c : Int) < (kk : Int)) := by omega
      have hkc2 : (kk : Int) ≤ (c : Int) := by omega
      have e1 := wrapSucc kk n hlt (by omega)
      have HIN : Hid (∀ W, SL W (.slice (some ⟨b, o, none⟩) kk c) (zs.take kk) → Calls Tryz.prog 60 #[.slice (some ⟨b, o, none⟩) kk c, .int .i64 r1] W fun e w' => e = .returned (.int .i64 (idx r1 (zs.take kk))) ∧ w' = W) := fun W h => in_any _ _ r1 W h
      have HSL : Hid (∀ q, SL (wr.drewN q) (.slice (some ⟨b, o, none⟩) kk c) (zs.take kk)) := fun q =>
        (sl_take (by rw [HN.out]; exact hkk) (by rw [HN.out]; exact hc) hm hb HL.out).below (belowN BW.out q)
      clear hr hmore hnot A
      generalize idx r1 (zs.take kk) = m at *
      by_cases hm0 : 0 ≤ m
      · have HX : Hid (T = true) := by rw [← HT.out]; exact decide_eq_true (HNOT.out hm0)
        go_wp2_with fail
        go_quiet ((go_at_call 60; exact Calls.quiet_of_same (HIN.out _ (HSL.out _))))
        go_wp2_with fail
        go_ret
        exact ⟨by rw [HX.out]; rfl, belowN BW.out _⟩
      · have HX : Hid ((idsR (zs.take (kk + 1))).Nodup) := HMORE.out hm0
        go_wp2_with fail
        go_quiet ((go_at_call 60; exact Calls.quiet_of_same (HIN.out _ (HSL.out _))))
        go_wp2_with fail
        go_roundg (n - (kk + 1))
        case measure => clear e1; omega
        case rel => exact ⟨kk + 1, hlt, Nat.le_refl _, by go_num, belowN BW.out _, HX.out⟩
    · have hltz : ¬ (kk : Int) < (n : Int) := by omega
      have hk : kk = n := by omega
      have HX : Hid (T = false) := by
        have h := A.out
        rw [List.take_of_length_le (by rw [HN.out]; omega)] at h
        rw [← HT.out]
        exact decide_eq_false (fun hn => hn h)
      clear A hk
      go_wp2_with fail
      go_ret
      exact ⟨by rw [HX.out]; rfl, BW.out⟩
end Go.Proofs.YtmgodofnhjmbfaaGreatDoor.sid
namespace Go.Proofs.YtmgodofnhjmbfaaGreatDoor.sid
open Go.RowKit Go.Proofs.YtmgodofnhjmbfaaGreatDoor.spn Go.Proofs.YtmgodofnhjmbfaaGreatDoor.que

theorem allR_take {ls : List L} {k : Nat} (hk : k < ls.length) : allR (ls.take (k + 1)) = allR (ls.take k) ++ ls[k]!.rests := by
  unfold allR; rw [ltake_at hk, List.flatMap_append]; simp
theorem allR_len (ls : List L) : ((allR ls).length : Int) = cnt ls := by
  induction ls with
  | nil => rfl
  | cons x t ih =>
    have e : allR (x :: t) = x.rests ++ allR t := rfl
    rw [e, List.length_append]; simp only [cnt]; omega
theorem allR_le (ls : List L) (k : Nat) : (allR (ls.take k)).length ≤ (allR ls).length := by
  have e : allR ls = allR (ls.take k) ++ allR (ls.drop k) := by unfold allR; rw [← List.flatMap_append, List.take_append_drop]
  rw [e, List.length_append]; omega
theorem allR_ids (ls : List L) : idsR (allR ls) = ids ls := by unfold ids; rw [flatP_ids]; rfl

theorem run_append_zero {P : Program} (w : World) (base : Nat) (t ty e : TypeId) (i : TypeInfo) (size : Nat) (ht : P.underlying t = some (.slice e)) (hi : P.info? e = some i)
    (v : Value) (n : Nat) (xs : List Value) (hown : OwnM w base e size v n xs) (q : Option Addr) (c : Nat) : (Builtin.append_ #[t, t] ty #[v, .slice q 0 c]).run P w = .ok v w := by
  rcases hown.2 with ⟨rfl, rfl⟩ | ⟨g, off, cap, cur, rfl, hbg, hg, hnc, hcm, hcs, htake⟩
  · cases q <;> simp [Builtin.append_, run_underlying ht, sizeOf, typeInfo, hi, Builtin.lenOf, Builtin.firstCells, loadCells, loadCellsFrom]
  · cases q <;> simp [Builtin.append_, run_underlying ht, sizeOf, typeInfo, hi, Builtin.lenOf, Builtin.firstCells, hnc, storeCells, loadCells, loadCellsFrom]

set_option maxRecDepth 100000 in
set_option maxHeartbeats 1000000 in
theorem rflat_some (b o c : Nat) (ls : List L) (w : World) (hn8 : ls.length ≤ 9223372036854775807) (hl : LL w b o ls) (h60 : cnt ls ≤ 60) :
    Calls Tryz.prog 45 #[.slice (some ⟨b, o, none⟩) ls.length c] w fun e w' => ∃ v, e = .returned v ∧ OwnQ w' w.heap.size v (allR ls) ∧ Below w.heap.size w w' := by
  have HLEN : Hid (∀ k, (allR (ls.take k)).length ≤ 60) := fun k => by
    have h1 := allR_le ls k
    have h2 := allR_len ls
    omega
  have HL : Hid (LL w b o ls) := hl
  clear hl h60
  obtain ⟨i0, hi, hz0, hz1, hz2⟩ := infoR'
  have HI : Hid (Tryz.prog.info? 26 = some i0) := hi
  clear hi
  generalize hn : ls.length = n at *
  have HN : Hid (ls.length = n) := hn
  clear hn
  go_enter Tryz.func45, Tryz.ntmps45
  go_wp2_with fail
  go_loopg [3, 4] n (fun gg s3 s4 wr => ∃ kk : Nat, kk ≤ n ∧ n - kk ≤ gg ∧ s4 = .int .i64 kk ∧ Aside (OwnQ wr w.heap.size s3 (allR (ls.take kk))) ∧ Aside (Below w.heap.size w wr))
  case atStart => exact ⟨0, Nat.zero_le _, by omega, rfl, ⟨rfl, .inl ⟨rfl, rfl⟩⟩, Below.refl _ _⟩
  case round =>
    obtain ⟨kk, hkk, hg, rfl, OW, BW⟩ := hrel
    by_cases hlt : kk < n
    · have hltz : (kk : Int) < (n : Int) := by omega
      have hlz : kk < ls.length := by rw [HN.out]; exact hlt
      obtain ⟨r, hr⟩ : ∃ r, ls[kk]! = r := ⟨_, rfl⟩
      obtain ⟨p, zs⟩ := r
      obtain ⟨q, cc, a0, a1, hs⟩ := HL.out.at hlz hr
      have c1 := keeps BW.out a1
      have HTK : Hid (allR (ls.take (kk + 1)) = allR (ls.take kk) ++ zs) := by
        have := allR_take hlz
        rw [hr] at this
        exact this
      have hle : (allR (ls.take kk)).length + zs.length ≤ 60 := by
        have := HLEN.out (kk + 1)
        rw [HTK.out, List.length_append] at this
        exact this
      have hin1 : ¬ ((kk : Int) < 0) := by omega
      have hw1 : wrap64 ((kk : Int) + 1) = ((kk + 1 : Nat) : Int) := by unfold wrap64; omega
      have hsw := hs.below BW.out
      clear hr hs a0 a1
      by_cases hz : zs = []
      · subst hz
        have hO2 : Aside (OwnQ wr w.heap.size u3 (allR (ls.take (kk + 1)))) := by
          show OwnQ _ _ _ _
          rw [HTK.out, List.append_nil]
          exact OW.out
        have HR : Hid ((Builtin.append_ #[32, 32] 32 #[u3, .slice q 0 cc]).run Tryz.prog wr = .ok u3 wr) := run_append_zero wr _ _ _ _ i0 5 Tryz.underlying32 HI.out _ _ _ OW.out q cc
        rw [List.length_nil] at c1
        clear hle hsw
        go_wp2_with (at_builtin; refine Lib.wpList_append_run _ rfl _ _ _ _ rfl _ _ rfl rfl _ _ HR.out ?_)
        go_roundg (n - (kk + 1))
        case measure => omega
        case rel => exact ⟨kk + 1, by omega, by omega, by go_num, hO2, BW⟩
      rcases hsw.sl hz with ⟨hv, hz'⟩ | ⟨b2, o2, cp, hv, h2, h3, h4, h5⟩
      · exact absurd hz' hz
      · injection hv with v1 v2 v3
        subst v1
        subst v3
        have HF : Hid (∀ j u, (flat zs)[j]? = some u → wr.cell? ((⟨b2, o2, none⟩ : Addr).add j) = some u) := lies_flat h5
        clear h5 hsw
        go_wp2_with (at_builtin; (refine wpList_append_mid _ rfl _ _ 32 rfl w.heap.size 26 i0 zeroR 5 40 Tryz.underlying32 HI.out hz0 hz1 hz2 rfl u3 _ _ rfl OW.out ⟨b2, o2, none⟩ zs.length cc (flat zs) rfl (flat_len _) HF.out (flat_one _) ?c3 ?c4 ?c5 ?_))
        case c3 => unfold maxLen; omega
        case c4 => omega
        case c5 => exact BW.out.size
        intro v' w' hO' hgr hat
        have hB' : Aside (Below w.heap.size w w') := BW.out.grown hgr BW.out.size (fun k hk => (OwnM.lt OW.out k hk).1)
        have hO2 : Aside (OwnQ w' w.heap.size v' (allR (ls.take (kk + 1)))) := by
          show OwnM _ _ _ _ _ _ _
          rw [HTK.out, List.length_append, flat_append]
          exact hO'
        clear hO' hgr hat HF c1
        go_wp2_with fail
        go_roundg (n - (kk + 1))
        case measure => omega
        case rel => exact ⟨kk + 1, by omega, by omega, by go_num, hO2, hB'⟩
    · have hltz : ¬ (kk : Int) < (n : Int) := by omega
      have hT2 : ls.take kk = ls := List.take_of_length_le (by rw [HN.out]; omega)
      rw [hT2] at OW
      go_wp2_with fail
      go_ret
      exact ⟨_, rfl, OW.out, BW.out⟩
end Go.Proofs.YtmgodofnhjmbfaaGreatDoor.sid
