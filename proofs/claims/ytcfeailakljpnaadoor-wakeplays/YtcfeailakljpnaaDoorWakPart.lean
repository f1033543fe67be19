/- Contracts over this seat's translation: wake.wakes, (*Stops).part. -/
import Derived.Test.YtcfeailakljpnaaDoorWakPure
namespace Go.Proofs.YtcfeailakljpnaaDoor.wak
open Go.RowKit Go.Proofs.YtcfeailakljpnaaDoor.ord
open Go.Proofs.YtcfeailakljpnaaDoor.spn (keeps bcell)

theorem hidP {P : Prop} (h : P) : Hid P := h
set_option maxHeartbeats 1000000 in
theorem wakes_any (o : O) (x : Int) (W : World) : Calls Tryd.prog 25 #[oV o, .int .i64 x] W fun e w' => e = .returned (.bool (wkB x o)) ∧ Below W.heap.size W w' := by
  obtain ⟨a1, a2, a3, a4, a5, a6, a7, a8⟩ := o
  show Calls Tryd.prog 25 #[.agg #[.int .i64 a1, .int .i64 a2, .int .i64 a3, .int .i64 a4, .int .i64 a5, .int .i64 a6, .int .i64 a7, .int .i64 a8], .int .i64 x] W _
  by_cases h : a3 = 1
  · subst h
    have e : wkB x ⟨a1, a2, 1, a4, a5, a6, a7, a8⟩ = decide (a8 ≤ x) := by unfold wkB; rw [if_pos rfl]
    rw [e]
    clear e
    go_enter Tryd.func25, Tryd.ntmps25
    go_wp2
    go_ret
    exact ⟨rfl, (Below.refl _ _).alloc (Nat.le_refl _) _⟩
  · have e : wkB x ⟨a1, a2, a3, a4, a5, a6, a7, a8⟩ = decide (x ≤ a8) := by unfold wkB; rw [if_neg h]
    have e1 : (a3 == 1) = false := by simp [h]
    rw [e]
    clear e h
    go_enter Tryd.func25, Tryd.ntmps25
    go_wp2
    go_ret
    exact ⟨rfl, (Below.refl _ _).alloc (Nat.le_refl _) _⟩

set_option maxHeartbeats 1000000 in
theorem pred_1 (x : Int) (o : O) (B : Nat) (W : World) (hB : B < W.heap.size) (hc : W.cell? ⟨B, 0, none⟩ = some (.int .i64 x)) :
    Calls Tryd.prog 24 #[.agg (oL o).toArray, .pointer (some ⟨B, 0, none⟩)] W fun e w' => e = .returned (.bool (wkB x o)) ∧ Below W.heap.size W w' := by
  have hw := fun W => wakes_any o x W
  obtain ⟨a1, a2, a3, a4, a5, a6, a7, a8⟩ := o
  show Calls Tryd.prog 24 #[.agg #[.int .i64 a1, .int .i64 a2, .int .i64 a3, .int .i64 a4, .int .i64 a5, .int .i64 a6, .int .i64 a7, .int .i64 a8], .pointer (some ⟨B, 0, none⟩)] W _
  have HW : Hid (∀ W, Calls Tryd.prog 25 #[.agg #[.int .i64 a1, .int .i64 a2, .int .i64 a3, .int .i64 a4, .int .i64 a5, .int .i64 a6, .int .i64 a7, .int .i64 a8], .int .i64 x] W fun e w' => e = .returned (.bool (wkB x ⟨a1, a2, a3, a4, a5, a6, a7, a8⟩)) ∧ Below W.heap.size W w') := hw
  clear hw
  generalize wkB x ⟨a1, a2, a3, a4, a5, a6, a7, a8⟩ = r at *
  go_enter Tryd.func24, Tryd.ntmps24
  go_wp2_with fail
  refine (HW.out _).mono ?_
  rintro e w1 ⟨rfl, hb1⟩
  have HB := hidP (((Below.refl _ W).alloc (Nat.le_refl _) _).trans (hb1.mono (by simp)))
  clear hb1 hc
  go_wp2_with fail
  go_ret
  exact ⟨rfl, HB.out⟩

set_option maxHeartbeats 1000000 in
theorem pred_2 (x : Int) (o : O) (B : Nat) (W : World) (hB : B < W.heap.size) (hc : W.cell? ⟨B, 0, none⟩ = some (.int .i64 x)) :
    Calls Tryd.prog 26 #[.agg (oL o).toArray, .pointer (some ⟨B, 0, none⟩)] W fun e w' => e = .returned (.bool (!wkB x o)) ∧ Below W.heap.size W w' := by
  have hw := fun W => wakes_any o x W
  obtain ⟨a1, a2, a3, a4, a5, a6, a7, a8⟩ := o
  show Calls Tryd.prog 26 #[.agg #[.int .i64 a1, .int .i64 a2, .int .i64 a3, .int .i64 a4, .int .i64 a5, .int .i64 a6, .int .i64 a7, .int .i64 a8], .pointer (some ⟨B, 0, none⟩)] W _
  have HW : Hid (∀ W, Calls Tryd.prog 25 #[.agg #[.int .i64 a1, .int .i64 a2, .int .i64 a3, .int .i64 a4, .int .i64 a5, .int .i64 a6, .int .i64 a7, .int .i64 a8], .int .i64 x] W fun e w' => e = .returned (.bool (wkB x ⟨a1, a2, a3, a4, a5, a6, a7, a8⟩)) ∧ Below W.heap.size W w') := hw
  clear hw
  generalize wkB x ⟨a1, a2, a3, a4, a5, a6, a7, a8⟩ = r at *
  go_enter Tryd.func26, Tryd.ntmps26
  go_wp2_with fail
  refine (HW.out _).mono ?_
  rintro e w1 ⟨rfl, hb1⟩
  have HB := hidP (((Below.refl _ W).alloc (Nat.le_refl _) _).trans (hb1.mono (by simp)))
  clear hb1 hc
  go_wp2_with fail
  go_ret
  exact ⟨rfl, HB.out⟩

set_option maxRecDepth 100000 in
set_option maxHeartbeats 2000000 in
theorem part_1 (x : Int) (B b p : Nat) (vq : Option Addr) (n vc : Nat) (os : List O) (w : World) (hn : n = os.length) (h : St w b p (.slice vq n vc) os) (hB : B < w.heap.size) (hc : w.cell? ⟨B, 0, none⟩ = some (.int .i64 x)) (hl : n ≤ 1000) :
    Calls Tryd.prog 23 #[.pointer (some ⟨p, 0, none⟩), .func (.func 24) #[] #[.pointer (some ⟨B, 0, none⟩)]] w fun e w' => ∃ q m c, e = .returned (.slice q m c) ∧ m = (os.filter (wkB x)).length ∧ OwnQ w' w.heap.size (.slice q m c) (os.filter (wkB x)) ∧ Below w.heap.size w w' := by
  have hpc := h.cell
  have HS := hidP h
  have HN := hidP hn
  have HPR : Hid (∀ W o, Below w.heap.size w W → Calls Tryd.prog 24 #[.agg (oL o).toArray, .pointer (some ⟨B, 0, none⟩)] W fun e w' => e = .returned (.bool (wkB x o)) ∧ Below W.heap.size W w') := fun W o hW => pred_1 x o B W (Nat.lt_of_lt_of_le hB hW.size) (keeps hW hc)
  obtain ⟨i0, hi0, hz0, hz1, hz2⟩ := infoR'
  have HI := hidP hi0
  have HL := hidP hl
  have HX : Hid (0 < n → ∃ g off, vq = some ⟨g, off, none⟩ ∧ Lies w g off os) := fun hp => by
    rcases h.own.sl with ⟨h1, h2⟩ | ⟨g, off, c, h1, h2, h3, h4, h5⟩
    · cases h1; omega
    · cases h1; exact ⟨g, off, rfl, h5⟩
  clear h hn hi0 hl hB hc
  go_enter Tryd.func23, Tryd.ntmps23
  go_wp2_with fail
  go_loopg [5, 7, 13] n (fun gg s5 _ s13 wr => ∃ (kk m : Nat) (q : Option Addr) (c : Nat), kk ≤ n ∧ n - kk ≤ gg ∧ s13 = .int .i64 kk ∧ s5 = .slice q m c ∧ Aside (m = ((os.take kk).filter (wkB x)).length ∧ OwnQ wr w.heap.size (.slice q m c) ((os.take kk).filter (wkB x)) ∧ Below w.heap.size w wr))
  case atStart => exact ⟨0, 0, none, 0, Nat.zero_le _, by omega, rfl, rfl, rfl, ⟨rfl, .inl ⟨rfl, rfl⟩⟩, Below.refl _ _⟩
  case round =>
    obtain ⟨kk, m, q, c, hkk, hg, rfl, rfl, HA⟩ := hrel
    by_cases hlt : kk < n
    · have hltz : (kk : Int) < (n : Int) := by omega
      have hin1 : ¬ ((kk : Int) < 0) := by omega
      have hlz : kk < os.length := by have := HN.out; omega
      obtain ⟨g, off, rfl, hlie⟩ := HX.out (by omega)
      obtain ⟨o, ho⟩ : ∃ o, os[kk]! = o := ⟨_, rfl⟩
      have HPO := hidP (fun W hW => HPR.out W o hW)
      have HFL : Hid ((os.take (kk + 1)).filter (wkB x) = (os.take kk).filter (wkB x) ++ (if (wkB x o) = true then [o] else [])) := by
        show _ = _
        rw [← ho, getE _ _ hlz, List.take_succ_eq_append_getElem hlz, List.filter_append]
        congr 1
        rw [List.filter_cons, List.filter_nil]
      have HOL := hidP (show oL o = oL o from rfl)
      obtain ⟨y, hy⟩ : ∃ y, (wkB x o) = y := ⟨_, rfl⟩
      rw [hy] at HPO HFL
      have cel : ∀ i v, (oL o)[i]? = some v → wr.cell? ⟨g, off + kk * 8 + i, none⟩ = some v := fun i v hv => keeps HA.out.2.2 (hlie kk hlz i v (by rw [ho]; exact hv))
      clear hy ho hlie
      obtain ⟨a1, a2, a3, a4, a5, a6, a7, a8⟩ := o
      have t0 := cel 0 _ rfl
      have t1 := cel 1 _ rfl
      have t2 := cel 2 _ rfl
      have t3 := cel 3 _ rfl
      have t4 := cel 4 _ rfl
      have t5 := cel 5 _ rfl
      have t6 := cel 6 _ rfl
      have t7 := cel 7 _ rfl
      simp only [Nat.add_zero] at t0
      have HPO2 : Hid (∀ W, Below w.heap.size w W → Calls Tryd.prog 24 #[.agg #[.int .i64 a1, .int .i64 a2, .int .i64 a3, .int .i64 a4, .int .i64 a5, .int .i64 a6, .int .i64 a7, .int .i64 a8], .pointer (some ⟨B, 0, none⟩)] W fun e w' => e = .returned (.bool y) ∧ Below W.heap.size W w') := HPO.out
      have HBA := hidP (HA.out.2.2.alloc HA.out.2.2.size (.cells #[.int .i64 a1, .int .i64 a2, .int .i64 a3, .int .i64 a4, .int .i64 a5, .int .i64 a6, .int .i64 a7, .int .i64 a8] 29))
      have hR := heap_alloc_new wr (.cells #[.int .i64 a1, .int .i64 a2, .int .i64 a3, .int .i64 a4, .int .i64 a5, .int .i64 a6, .int .i64 a7, .int .i64 a8] 29)
      have HZ1 := hidP (show ∀ (m : Nat), m ≤ kk → kk < n → n ≤ 1000 → m + 1 ≤ maxLen ∧ (m + 1) * 64 ≤ 140737488355328 from fun m h1 h2 h3 => by unfold maxLen; omega)
      have HML : Hid (m ≤ kk ∧ kk < n ∧ n ≤ 1000) := ⟨by
        rw [HA.out.1]
        exact Nat.le_trans (List.length_filter_le _ _) (by rw [List.length_take]; omega), hlt, HL.out⟩
      clear cel HPO HPR HOL HX
      go_wp2_with fail
      refine (HPO2.out _ HBA.out).mono ?_
      rintro e w2 ⟨rfl, hb2⟩
      have HB2 := hidP (HBA.out.trans (hb2.mono HBA.out.size))
      have hR2 : w2.heap[wr.heap.size]? = some (.cells #[.int .i64 a1, .int .i64 a2, .int .i64 a3, .int .i64 a4, .int .i64 a5, .int .i64 a6, .int .i64 a7, .int .i64 a8] 29 (0, 0)) := (hb2.block _ (by simp)).trans hR
      have HO2 := hidP (OwnM.below HA.out.2.1 (((Below.refl _ wr).alloc (Nat.le_refl _) _).trans (hb2.mono (by simp))))
      have HQ := hidP HA.out.1
      have hwl : wr.heap.size < w2.heap.size := (Array.getElem?_eq_some_iff.1 hR2).1
      have cel : ∀ i, w2.cell? ⟨wr.heap.size, i, none⟩ = (#[.int .i64 a1, .int .i64 a2, .int .i64 a3, .int .i64 a4, .int .i64 a5, .int .i64 a6, .int .i64 a7, .int .i64 a8] : Array Value)[i]? := fun i => by simp [World.cell?, hR2]
      have u0 := cel 0
      have u1 := cel 1
      have u2 := cel 2
      have u3 := cel 3
      have u4 := cel 4
      have u5 := cel 5
      have u6 := cel 6
      have u7 := cel 7
      simp only [List.getElem?_toArray, List.getElem?_cons_zero, List.getElem?_cons_succ] at u0 u1 u2 u3 u4 u5 u6 u7
      have es : wrap64 ((kk : Int) + 1) = ((kk + 1 : Nat) : Int) := by have := HML.out; unfold wrap64; omega
      have HES := hidP es
      clear cel hR hR2 hb2 t0 t1 t2 t3 t4 t5 t6 t7 HA HBA HPO2 es
      cases y
      · have hes := HES.out
        go_wp2_with fail
        go_roundg (n - (kk + 1))
        case measure => clear hes; omega
        case rel => exact ⟨kk + 1, m, q, c, hlt, Nat.le_refl _, by go_num, rfl, by rw [HFL.out]; simpa using HQ.out, by rw [HFL.out]; simpa using HO2.out, HB2.out⟩
      · have HFT : Hid ((os.take (kk + 1)).filter (wkB x) = (os.take kk).filter (wkB x) ++ [(⟨a1, a2, a3, a4, a5, a6, a7, a8⟩ : O)]) := by
          show _ = _
          rw [HFL.out]
          rfl
        clear HFL
        go_wp2_with (at_builtin; (refine wpList_append_mid _ rfl _ _ 22 rfl w.heap.size 29 i0 zeroR 8 64 Tryd.underlying22 HI.out hz0 hz1 hz2 rfl (.slice q m c) m (flat ((os.take kk).filter (wkB x))) rfl ?p0 ⟨w2.heap.size, 0, none⟩ 1 1 (oL ⟨a1, a2, a3, a4, a5, a6, a7, a8⟩) rfl rfl (World.news_of_block (cs := #[.int .i64 a1, .int .i64 a2, .int .i64 a3, .int .i64 a4, .int .i64 a5, .int .i64 a6, .int .i64 a7, .int .i64 a8]) (heap_alloc_new _ _)) (by simp [Value.oneCell', oL]) ?p1 ?p2 ?p3 ?_))
        case p0 =>
          have := OwnM.below HO2.out ((Below.refl _ w2).alloc (Nat.le_refl _) (.cells #[.int .i64 a1, .int .i64 a2, .int .i64 a3, .int .i64 a4, .int .i64 a5, .int .i64 a6, .int .i64 a7, .int .i64 a8] 29))
          rwa [← HQ.out] at this
        case p1 => exact (HZ1.out m HML.out.1 HML.out.2.1 HML.out.2.2).1
        case p2 => exact (HZ1.out m HML.out.1 HML.out.2.1 HML.out.2.2).2
        case p3 => have := HB2.out.size; simp; omega
        intro v' w' hO' hgr hat
        have HB3 : Hid (Below w.heap.size w w') := (HB2.out.alloc HB2.out.size (.cells #[.int .i64 a1, .int .i64 a2, .int .i64 a3, .int .i64 a4, .int .i64 a5, .int .i64 a6, .int .i64 a7, .int .i64 a8] 29)).grown hgr (by have := HB2.out.size; simp; omega) (fun k hk => (OwnM.lt HO2.out k hk).1)
        have HO3 : Hid (OwnQ w' w.heap.size v' ((os.take (kk + 1)).filter (wkB x)) ∧ m + 1 = ((os.take (kk + 1)).filter (wkB x)).length) := by
          rw [HFT.out]
          have e1 : m + 1 = ((os.take kk).filter (wkB x) ++ [(⟨a1, a2, a3, a4, a5, a6, a7, a8⟩ : O)]).length := by
            rw [List.length_append, ← HQ.out]; rfl
          refine ⟨?_, e1⟩
          show OwnM _ _ _ _ _ _ _
          rw [← e1, flat_append]
          exact hO'
        obtain ⟨q', c', rfl⟩ := OwnM.form hO'
        have hes := HES.out
        clear hO' hgr hat u0 u1 u2 u3 u4 u5 u6 u7
        go_wp2_with fail
        go_roundg (n - (kk + 1))
        case measure => clear hes; omega
        case rel => exact ⟨kk + 1, m + 1, q', c', hlt, Nat.le_refl _, by go_num, rfl, HO3.out.2, HO3.out.1, HB3.out⟩
    · have hltz : ¬ (kk : Int) < (n : Int) := by omega
      have hk : os.take kk = os := List.take_of_length_le (by have := HN.out; omega)
      rw [hk] at HA
      go_wp2_with fail
      go_ret
      exact ⟨q, m, c, rfl, HA.out.1, HA.out.2.1, HA.out.2.2⟩

set_option maxRecDepth 100000 in
set_option maxHeartbeats 2000000 in
theorem part_2 (x : Int) (B b p : Nat) (vq : Option Addr) (n vc : Nat) (os : List O) (w : World) (hn : n = os.length) (h : St w b p (.slice vq n vc) os) (hB : B < w.heap.size) (hc : w.cell? ⟨B, 0, none⟩ = some (.int .i64 x)) (hl : n ≤ 1000) :
    Calls Tryd.prog 23 #[.pointer (some ⟨p, 0, none⟩), .func (.func 26) #[] #[.pointer (some ⟨B, 0, none⟩)]] w fun e w' => ∃ q m c, e = .returned (.slice q m c) ∧ m = (os.filter (fun o => !wkB x o)).length ∧ OwnQ w' w.heap.size (.slice q m c) (os.filter (fun o => !wkB x o)) ∧ Below w.heap.size w w' := by
  have hpc := h.cell
  have HS := hidP h
  have HN := hidP hn
  have HPR : Hid (∀ W o, Below w.heap.size w W → Calls Tryd.prog 26 #[.agg (oL o).toArray, .pointer (some ⟨B, 0, none⟩)] W fun e w' => e = .returned (.bool (!wkB x o)) ∧ Below W.heap.size W w') := fun W o hW => pred_2 x o B W (Nat.lt_of_lt_of_le hB hW.size) (keeps hW hc)
  obtain ⟨i0, hi0, hz0, hz1, hz2⟩ := infoR'
  have HI := hidP hi0
  have HL := hidP hl
  have HX : Hid (0 < n → ∃ g off, vq = some ⟨g, off, none⟩ ∧ Lies w g off os) := fun hp => by
    rcases h.own.sl with ⟨h1, h2⟩ | ⟨g, off, c, h1, h2, h3, h4, h5⟩
    · cases h1; omega
    · cases h1; exact ⟨g, off, rfl, h5⟩
  clear h hn hi0 hl hB hc
  go_enter Tryd.func23, Tryd.ntmps23
  go_wp2_with fail
  go_loopg [5, 7, 13] n (fun gg s5 _ s13 wr => ∃ (kk m : Nat) (q : Option Addr) (c : Nat), kk ≤ n ∧ n - kk ≤ gg ∧ s13 = .int .i64 kk ∧ s5 = .slice q m c ∧ Aside (m = ((os.take kk).filter (fun o => !wkB x o)).length ∧ OwnQ wr w.heap.size (.slice q m c) ((os.take kk).filter (fun o => !wkB x o)) ∧ Below w.heap.size w wr))
  case atStart => exact ⟨0, 0, none, 0, Nat.zero_le _, by omega, rfl, rfl, rfl, ⟨rfl, .inl ⟨rfl, rfl⟩⟩, Below.refl _ _⟩
  case round =>
    obtain ⟨kk, m, q, c, hkk, hg, rfl, rfl, HA⟩ := hrel
    by_cases hlt : kk < n
    · have hltz : (kk : Int) < (n : Int) := by omega
      have hin1 : ¬ ((kk : Int) < 0) := by omega
      have hlz : kk < os.length := by have := HN.out; omega
      obtain ⟨g, off, rfl, hlie⟩ := HX.out (by omega)
      obtain ⟨o, ho⟩ : ∃ o, os[kk]! = o := ⟨_, rfl⟩
      have HPO := hidP (fun W hW => HPR.out W o hW)
      have HFL : Hid ((os.take (kk + 1)).filter (fun o => !wkB x o) = (os.take kk).filter (fun o => !wkB x o) ++ (if (!wkB x o) = true then [o] else [])) := by
        show _ = _
        rw [← ho, getE _ _ hlz, List.take_succ_eq_append_getElem hlz, List.filter_append]
        congr 1
        rw [List.filter_cons, List.filter_nil]
      have HOL := hidP (show oL o = oL o from rfl)
      obtain ⟨y, hy⟩ : ∃ y, (!wkB x o) = y := ⟨_, rfl⟩
      rw [hy] at HPO HFL
      have cel : ∀ i v, (oL o)[i]? = some v → wr.cell? ⟨g, off + kk * 8 + i, none⟩ = some v := fun i v hv => keeps HA.out.2.2 (hlie kk hlz i v (by rw [ho]; exact hv))
      clear hy ho hlie
      obtain ⟨a1, a2, a3, a4, a5, a6, a7, a8⟩ := o
      have t0 := cel 0 _ rfl
      have t1 := cel 1 _ rfl
      have t2 := cel 2 _ rfl
      have t3 := cel 3 _ rfl
      have t4 := cel 4 _ rfl
      have t5 := cel 5 _ rfl
      have t6 := cel 6 _ rfl
      have t7 := cel 7 _ rfl
      simp only [Nat.add_zero] at t0
      have HPO2 : Hid (∀ W, Below w.heap.size w W → Calls Tryd.prog 26 #[.agg #[.int .i64 a1, .int .i64 a2, .int .i64 a3, .int .i64 a4, .int .i64 a5, .int .i64 a6, .int .i64 a7, .int .i64 a8], .pointer (some ⟨B, 0, none⟩)] W fun e w' => e = .returned (.bool y) ∧ Below W.heap.size W w') := HPO.out
      have HBA := hidP (HA.out.2.2.alloc HA.out.2.2.size (.cells #[.int .i64 a1, .int .i64 a2, .int .i64 a3, .int .i64 a4, .int .i64 a5, .int .i64 a6, .int .i64 a7, .int .i64 a8] 29))
      have hR := heap_alloc_new wr (.cells #[.int .i64 a1, .int .i64 a2, .int .i64 a3, .int .i64 a4, .int .i64 a5, .int .i64 a6, .int .i64 a7, .int .i64 a8] 29)
      have HZ1 := hidP (show ∀ (m : Nat), m ≤ kk → kk < n → n ≤ 1000 → m + 1 ≤ maxLen ∧ (m + 1) * 64 ≤ 140737488355328 from fun m h1 h2 h3 => by unfold maxLen; omega)
      have HML : Hid (m ≤ kk ∧ kk < n ∧ n ≤ 1000) := ⟨by
        rw [HA.out.1]
        exact Nat.le_trans (List.length_filter_le _ _) (by rw [List.length_take]; omega), hlt, HL.out⟩
      clear cel HPO HPR HOL HX
      go_wp2_with fail
      refine (HPO2.out _ HBA.out).mono ?_
      rintro e w2 ⟨rfl, hb2⟩
      have HB2 := hidP (HBA.out.trans (hb2.mono HBA.out.size))
      have hR2 : w2.heap[wr.heap.size]? = some (.cells #[.int .i64 a1, .int .i64 a2, .int .i64 a3, .int .i64 a4, .int .i64 a5, .int .i64 a6, .int .i64 a7, .int .i64 a8] 29 (0, 0)) := (hb2.block _ (by simp)).trans hR
      have HO2 := hidP (OwnM.below HA.out.2.1 (((Below.refl _ wr).alloc (Nat.le_refl _) _).trans (hb2.mono (by simp))))
      have HQ := hidP HA.out.1
      have hwl : wr.heap.size < w2.heap.size := (Array.getElem?_eq_some_iff.1 hR2).1
      have cel : ∀ i, w2.cell? ⟨wr.heap.size, i, none⟩ = (#[.int .i64 a1, .int .i64 a2, .int .i64 a3, .int .i64 a4, .int .i64 a5, .int .i64 a6, .int .i64 a7, .int .i64 a8] : Array Value)[i]? := fun i => by simp [World.cell?, hR2]
      have u0 := cel 0
      have u1 := cel 1
      have u2 := cel 2
      have u3 := cel 3
      have u4 := cel 4
      have u5 := cel 5
      have u6 := cel 6
      have u7 := cel 7
      simp only [List.getElem?_toArray, List.getElem?_cons_zero, List.getElem?_cons_succ] at u0 u1 u2 u3 u4 u5 u6 u7
      have es : wrap64 ((kk : Int) + 1) = ((kk + 1 : Nat) : Int) := by have := HML.out; unfold wrap64; omega
      have HES := hidP es
      clear cel hR hR2 hb2 t0 t1 t2 t3 t4 t5 t6 t7 HA HBA HPO2 es
      cases y
      · have hes := HES.out
        go_wp2_with fail
        go_roundg (n - (kk + 1))
        case measure => clear hes; omega
        case rel => exact ⟨kk + 1, m, q, c, hlt, Nat.le_refl _, by go_num, rfl, by rw [HFL.out]; simpa using HQ.out, by rw [HFL.out]; simpa using HO2.out, HB2.out⟩
      · have HFT : Hid ((os.take (kk + 1)).filter (fun o => !wkB x o) = (os.take kk).filter (fun o => !wkB x o) ++ [(⟨a1, a2, a3, a4, a5, a6, a7, a8⟩ : O)]) := by
          show _ = _
          rw [HFL.out]
          rfl
        clear HFL
        go_wp2_with (at_builtin; (refine wpList_append_mid _ rfl _ _ 22 rfl w.heap.size 29 i0 zeroR 8 64 Tryd.underlying22 HI.out hz0 hz1 hz2 rfl (.slice q m c) m (flat ((os.take kk).filter (fun o => !wkB x o))) rfl ?p0 ⟨w2.heap.size, 0, none⟩ 1 1 (oL ⟨a1, a2, a3, a4, a5, a6, a7, a8⟩) rfl rfl (World.news_of_block (cs := #[.int .i64 a1, .int .i64 a2, .int .i64 a3, .int .i64 a4, .int .i64 a5, .int .i64 a6, .int .i64 a7, .int .i64 a8]) (heap_alloc_new _ _)) (by simp [Value.oneCell', oL]) ?p1 ?p2 ?p3 ?_))
        case p0 =>
          have := OwnM.below HO2.out ((Below.refl _ w2).alloc (Nat.le_refl _) (.cells #[.int .i64 a1, .int .i64 a2, .int .i64 a3, .int .i64 a4, .int .i64 a5, .int .i64 a6, .int .i64 a7, .int .i64 a8] 29))
          rwa [← HQ.out] at this
        case p1 => exact (HZ1.out m HML.out.1 HML.out.2.1 HML.out.2.2).1
        case p2 => exact (HZ1.out m HML.out.1 HML.out.2.1 HML.out.2.2).2
        case p3 => have := HB2.out.size; simp; omega
        intro v' w' hO' hgr hat
        have HB3 : Hid (Below w.heap.size w w') := (HB2.out.alloc HB2.out.size (.cells #[.int .i64 a1, .int .i64 a2, .int .i64 a3, .int .i64 a4, .int .i64 a5, .int .i64 a6, .int .i64 a7, .int .i64 a8] 29)).grown hgr (by have := HB2.out.size; simp; omega) (fun k hk => (OwnM.lt HO2.out k hk).1)
        have HO3 : Hid (OwnQ w' w.heap.size v' ((os.take (kk + 1)).filter (fun o => !wkB x o)) ∧ m + 1 = ((os.take (kk + 1)).filter (fun o => !wkB x o)).length) := by
          rw [HFT.out]
          have e1 : m + 1 = ((os.take kk).filter (fun o => !wkB x o) ++ [(⟨a1, a2, a3, a4, a5, a6, a7, a8⟩ : O)]).length := by
            rw [List.length_append, ← HQ.out]; rfl
          refine ⟨?_, e1⟩
          show OwnM _ _ _ _ _ _ _
          rw [← e1, flat_append]
          exact hO'
        obtain ⟨q', c', rfl⟩ := OwnM.form hO'
        have hes := HES.out
        clear hO' hgr hat u0 u1 u2 u3 u4 u5 u6 u7
        go_wp2_with fail
        go_roundg (n - (kk + 1))
        case measure => clear hes; omega
        case rel => exact ⟨kk + 1, m + 1, q', c', hlt, Nat.le_refl _, by go_num, rfl, HO3.out.2, HO3.out.1, HB3.out⟩
    · have hltz : ¬ (kk : Int) < (n : Int) := by omega
      have hk : os.take kk = os := List.take_of_length_le (by have := HN.out; omega)
      rw [hk] at HA
      go_wp2_with fail
      go_ret
      exact ⟨q, m, c, rfl, HA.out.1, HA.out.2.1, HA.out.2.2⟩
end Go.Proofs.YtcfeailakljpnaaDoor.wak
