/- Contracts over this seat's translation: slices.Clone, slices.DeleteFunc at orders. -/
import Derived.Test.YtabcfmpmkdoieaaDoorCalTk
import Derived.Lib.SliceRun
namespace Go.Proofs.YtabcfmpmkdoieaaDoor.cal
open Go.RowKit Go.Proofs.YtabcfmpmkdoieaaDoor.ord
open Go.Proofs.YtabcfmpmkdoieaaDoor.wak (Lies SL oL OwnM OwnQ flat flat_len flat_one flat_append flat_cons lies_flat getE own_of own_range range_append range_left range_right gr_below gr_trans gr_alloc gr_setCells gr_drew setCells_blk wpList_append_mid infoR' zeroR run_clear_wide)

theorem zeroVR (w : World) : (zeroValue 44).run Tryd.prog w = .ok zeroR w := by kernel_rfl

set_option maxHeartbeats 1000000 in
theorem clone_some (G o n c : Nat) (zs : List O) (w : World) (hn : n = zs.length) (h1000 : n ≤ 1000) (hG : G < w.heap.size) (hL : Lies w G o zs) :
    Calls Tryd.prog 25 #[.slice (some ⟨G, o, none⟩) n c] w fun e w' => ∃ q c', e = .returned (.slice q n c') ∧ OwnM w' w.heap.size 44 8 (.slice q n c') n (flat zs) ∧ Below w.heap.size w w' := by
  obtain ⟨i0, hi0, hz0, hz1, hz2⟩ := infoR'
  have HI := hidC hi0
  have hB : Below w.heap.size w (w.alloc (.cells #[] 44)) := (Below.refl _ _).alloc (Nat.le_refl _) _
  have HO : Hid (OwnM (w.alloc (.cells #[] 44)) w.heap.size 44 8 (.slice (some ⟨w.heap.size, 0, none⟩) 0 0) 0 []) := own_of rfl (Nat.le_refl _) (heap_alloc_new w _) (by simp) (Nat.le_refl _) (Nat.zero_le _) (fun j u hu => by simp at hu)
  have HF : Hid (∀ j u, (flat zs)[j]? = some u → (w.alloc (.cells #[] 44)).cell? ((⟨G, o, none⟩ : Addr).add j) = some u) := lies_flat (hL.below hG hB)
  have HFL : Hid ((flat zs).length = n * 8) := by show _ = _; rw [flat_len, hn]
  have HN : Hid (n ≤ 1000) := h1000
  have HS : Hid (w.heap.size ≤ (w.alloc (.cells #[] 44)).heap.size) := hB.size
  have HB := hidC hB
  have q22 : ∀ (w : World) (a : Option Addr) (n c n' c' : Nat), (binOp .eql 22 (.slice a n c) (.slice none n' c')).run Tryd.prog w = .ok (.bool a.isNone) w := fun w a n c n' c' => Lib.run_eql_slice_nil w _ _ a n c n' c' Tryd.underlying22
  clear hn h1000 hG hL hB hi0
  go_enter Tryd.func25, Tryd.ntmps25
  go_wp2_with (at_builtin; (refine wpList_append_mid _ rfl _ _ 22 rfl w.heap.size 44 i0 zeroR 8 64 Tryd.underlying22 HI.out hz0 hz1 hz2 rfl (.slice (some ⟨w.heap.size, 0, none⟩) 0 0) 0 [] rfl HO.out ⟨G, o, none⟩ n c (flat zs) rfl HFL.out HF.out (flat_one _) ?c3 ?c4 ?c5 ?_))
  case c3 => have := HN.out; unfold maxLen; omega
  case c4 => have := HN.out; omega
  case c5 => exact HS.out
  intro v' w' hO' hgr hat
  obtain ⟨q, c', hv⟩ := OwnM.form hO'
  subst hv
  have HO' := hidC hO'
  have HB' : Hid (Below w.heap.size w w') := HB.out.grown hgr HB.out.size (fun k hk => by cases hk; exact Nat.le_refl _)
  clear hO' hgr hat
  go_wp2_with fail
  go_ret
  exact ⟨q, c', rfl, HO'.out, HB'.out⟩

theorem del_pred (w : World) :
    PredBelow Tryd.prog 29 #[] (fun x => .agg (oL x).toArray) (fun x => decide (x.qty = 0)) w := by
  intro W x hb
  obtain ⟨a, b, c, d, e, f, g, h⟩ := x
  show Calls Tryd.prog 29 #[.agg #[.int .i64 a, .int .i64 b, .int .i64 c, .int .i64 d, .int .i64 e, .int .i64 f, .int .i64 g, .int .i64 h]] W _
  go_enter Tryd.func29, Tryd.ntmps29
  go_wp2
  go_ret
  exact ⟨rfl, hb.alloc hb.size _⟩

def nz (o : O) : Bool := decide (¬ o.qty = 0)
theorem ixq (x : O) : ∀ (zs : List O) (k : Nat), (∃ i, i < zs.length ∧ Lib.idxByFrom (fun _ y => decide (y.qty = 0)) x zs k = ((k + i : Nat) : Int) ∧ (∀ r ∈ zs.take i, nz r = true) ∧ nz zs[i]! = false) ∨ (Lib.idxByFrom (fun _ y => decide (y.qty = 0)) x zs k = -1 ∧ ∀ r ∈ zs, nz r = true)
  | [], _ => .inr ⟨rfl, by simp⟩
  | r :: t, k => by
    have e : Lib.idxByFrom (fun _ y => decide (y.qty = 0)) x (r :: t) k = if decide (r.qty = 0) = true then (k : Int) else Lib.idxByFrom (fun _ y => decide (y.qty = 0)) x t (k + 1) := rfl
    rw [e]
    by_cases h : r.qty = 0
    · exact .inl ⟨0, by simp, by rw [if_pos (decide_eq_true h)]; rfl, by simp, decide_eq_false (fun x => x h)⟩
    · rw [if_neg (by simpa using h)]
      have hr : nz r = true := decide_eq_true h
      rcases ixq x t (k + 1) with ⟨i, h1, h2, h3, h4⟩ | ⟨h1, h2⟩
      · refine .inl ⟨i + 1, by simpa using h1, by rw [h2]; omega, ?_, h4⟩
        intro y hy
        rw [List.take_succ_cons] at hy
        rcases List.mem_cons.1 hy with rfl | hy
        · exact hr
        · exact h3 y hy
      · refine .inr ⟨h1, fun y hy => ?_⟩
        rcases List.mem_cons.1 hy with rfl | hy
        · exact hr
        · exact h2 y hy
theorem filter_all {os : List O} (h : ∀ r ∈ os, nz r = true) : os.filter nz = os := List.filter_eq_self.2 h

/-- One order laid over another. -/
theorem own_put {w : World} {b0 G o n c : Nat} {rs : List O} (h : OwnM w b0 44 8 (.slice (some ⟨G, o, none⟩) n c) n (flat rs)) (hn : n = rs.length) (i : Nat) (hi : i < n) (v : O) :
    OwnM (w.setCells G (o + i * 8) (oL v)) b0 44 8 (.slice (some ⟨G, o, none⟩) n c) n (flat (rs.set i v)) := by
  obtain ⟨h1, h2, ⟨cur, h3, h3'⟩, h4, h5, h6, h7⟩ := own_range h
  obtain ⟨cur1, hb1, hs1⟩ := setCells_blk G 44 (0, 0) (oL v) (o + i * 8) w cur h3
  have hir : i < rs.length := by omega
  have e1 : rs = rs.take i ++ rs[i] :: rs.drop (i + 1) := by
    conv => lhs; rw [← List.take_append_drop i rs, List.drop_eq_getElem_cons hir]
  have e2 : rs.set i v = rs.take i ++ v :: rs.drop (i + 1) := by rw [List.set_eq_take_append_cons_drop, if_pos hir]
  have hl : (flat (rs.take i)).length = i * 8 := by rw [flat_len, List.length_take, Nat.min_eq_left (by omega)]
  have hl2 : (oL v).length = 8 := rfl
  have e3 : flat rs = flat (rs.take i) ++ (oL rs[i] ++ flat (rs.drop (i + 1))) := by rw [← flat_cons, ← flat_append, ← e1]
  rw [e3] at h6
  have r1 := range_left h6
  have r2 := range_right (range_right h6)
  have hl3 : (oL rs[i]).length = 8 := rfl
  rw [hl, hl3] at r2
  refine own_of (by rw [flat_len, List.length_set, hn]) h2 hb1 (by rw [hs1]; exact h3') h4 h5 ?_
  rw [e2, flat_append, flat_cons]
  refine range_append ?_ (range_append ?_ ?_)
  · exact World.rangeAt_setCells_apart r1 _ _ _ (.inr (.inl (by rw [hl]; omega)))
  · rw [hl]
    exact World.rangeAt_setCells_same _ _ _ _ (fun j hj => by rw [hl2] at hj; rw [Nat.add_assoc]; exact h7 (i * 8 + j) (by omega))
  · rw [hl, hl2]
    exact World.rangeAt_setCells_apart r2 _ _ _ (.inr (.inr (by rw [hl2]; omega)))

/-- What holds while those of whom nothing is left go. -/
structure DI (w : World) (b0 G o n c : Nat) (os rs : List O) (i j : Nat) (wr : World) : Prop where
  gr : w.grownBy wr (some G)
  len : rs.length = n
  own : OwnM wr b0 44 8 (.slice (some ⟨G, o, none⟩) n c) n (flat rs)
  ij : i < j
  jn : j ≤ n
  kept : rs.take i = (os.take j).filter nz
  rest : rs.drop j = os.drop j
theorem DI.get {w wr : World} {b0 G o n c i j : Nat} {os rs : List O} (h : DI w b0 G o n c os rs i j wr) (hj : j < n) (hl : os.length = n) : rs[j]! = os[j]! := by
  have h1 := h.rest
  have hr := h.len
  rw [List.drop_eq_getElem_cons (show j < rs.length by omega), List.drop_eq_getElem_cons (show j < os.length by omega)] at h1
  injection h1 with h2 _
  rw [getE rs j (by omega), getE os j (by omega), h2]
theorem DI.skip {w wr w' : World} {b0 G o n c i j : Nat} {os rs : List O} (h : DI w b0 G o n c os rs i j wr) (hj : j < n) (hl : os.length = n) (hz : nz os[j]! = false) (hB : Below wr.heap.size wr w') : DI w b0 G o n c os rs i (j + 1) w' := by
  have hij := h.ij
  refine ⟨gr_trans h.gr (gr_below hB _), h.len, OwnM.below h.own hB, by omega, by omega, ?_, ?_⟩
  · rw [h.kept, List.take_succ_eq_append_getElem (by omega), List.filter_append]
    rw [getE os j (by omega)] at hz
    simp [hz]
  · rw [← List.drop_drop, ← List.drop_drop, h.rest]
theorem DI.keep {w wr w' : World} {b0 G o n c i j : Nat} {os rs : List O} (h : DI w b0 G o n c os rs i j wr) (hj : j < n) (hl : os.length = n) (hz : nz os[j]! = true) (hB : Below wr.heap.size wr w') : DI w b0 G o n c os (rs.set i os[j]!) (i + 1) (j + 1) (w'.setCells G (o + i * 8) (oL os[j]!)) := by
  have hij := h.ij
  have hrl := h.len
  refine ⟨gr_trans (gr_trans h.gr (gr_below hB _)) (gr_setCells G _ _ _), by rw [List.length_set]; exact h.len, own_put (OwnM.below h.own hB) h.len.symm i (by omega) _, by omega, by omega, ?_, ?_⟩
  · rw [List.take_succ_eq_append_getElem (show j < os.length by omega), List.filter_append, ← h.kept]
    have e : (rs.set i os[j]!).take (i + 1) = rs.take i ++ [os[j]!] := by
      rw [List.take_succ_eq_append_getElem (by rw [List.length_set]; omega), List.getElem_set_self, List.take_set_of_le (Nat.le_refl _)]
    rw [e]
    rw [getE os j (by omega)] at hz ⊢
    simp [hz]
  · rw [List.drop_set_of_lt (by omega), ← List.drop_drop, ← List.drop_drop, h.rest]

set_option maxHeartbeats 4000000 in
set_option maxRecDepth 100000 in
theorem delete_any (w : World) (b0 G o n c : Nat) (os : List O) (hn : n = os.length) (h1000 : n ≤ 1000) (ho : OwnM w b0 44 8 (.slice (some ⟨G, o, none⟩) n c) n (flat os)) :
    Calls Tryd.prog 28 #[.slice (some ⟨G, o, none⟩) n c, .func (.func 29) #[] #[]] w fun e w' => ∃ m, e = .returned (.slice (some ⟨G, o, none⟩) m c) ∧ m = (os.filter nz).length ∧ OwnM w' b0 44 8 (.slice (some ⟨G, o, none⟩) m c) m (flat (os.filter nz)) ∧ w.grownBy w' (some G) := by
  obtain ⟨hr1, hb0, ⟨cur, hcur, hcs⟩, hnc, hcm, hrg, hth⟩ := own_range ho
  have hGl : G < w.heap.size := (Array.getElem?_eq_some_iff.1 hcur).1
  have hc63 : c ≤ 9223372036854775807 := by simpa [maxLen] using hcm
  have eg : ∀ args w, (callFunc 29 args).run Tryd.prog w = .ok (.enter 29 args) w := enters_of Tryd.func29 (by kernel_rfl) rfl
  have hSL : SL w (.slice (some ⟨G, o, none⟩) os.length c) os := wak.OwnQ.sl (base := b0) (by rw [← hn] ; show OwnM _ _ _ _ _ _ _; rw [← hn]; exact ho)
  have hLies : Lies w G o os := by
    rcases hSL with ⟨h1, -⟩ | ⟨b, o', c', h1, -, -, -, h5⟩
    · cases h1
    · cases h1; exact h5
  have hcon := AnyQ.slices_IndexFunc Tryd.lq6o 8 Tryd.isAgg44 Tryd.sizeOf44 oL (fun x => rfl) (fun x => decide (x.qty = 0)) 29 #[] eg G o os.length c os
      w (del_pred w) (Nat.le_refl _) (by omega) hGl hLies
  change Calls Tryd.prog 42 _ _ _ at hcon
  rw [List.take_length, ← hn] at hcon
  have HN := hidC hn
  have HNC : Hid (n ≤ c ∧ c ≤ 9223372036854775807 ∧ n ≤ 1000) := ⟨hnc, hc63, h1000⟩
  have HO := hidC ho
  have HG := hidC hGl
  have HB0 := hidC hb0
  rcases ixq _ os 0 with ⟨i, hi, e1, e2, e3⟩ | ⟨e1, e2⟩
  · have HC : Hid (Calls Tryd.prog 42 #[.slice (some ⟨G, o, none⟩) n c, .func (.func 29) #[] #[]] w fun e w' => e = .returned (.int .i64 (i : Int)) ∧ Below w.heap.size w w') := hcon.mono fun e w' h => ⟨by rw [h.1]; congr 2; exact e1.trans (by rw [Nat.zero_add]), h.2⟩
    have HI : Hid (i < n) := by show _ < _; omega
    have H0 : Hid (∀ V, Below w.heap.size w V → DI w b0 G o n c os os i (i + 1) V) := fun V hV => ⟨gr_below hV _, hn.symm, OwnM.below ho hV, Nat.lt_succ_self i, by omega, by
      rw [List.take_succ_eq_append_getElem hi, List.filter_append, filter_all e2]
      rw [getE os i hi] at e3
      simp [e3], rfl⟩
    have hi1 : ¬ ((i : Int) = -1) := by omega
    have hi2 : ((i : Int) == -1) = false := beq_eq_false_iff_ne.2 hi1
    have ei := succW i (by omega)
    clear hcon hr1 hb0 hcur hcs hnc hcm hrg hth hGl hc63 eg hSL hLies hn h1000 ho hi e1 e2 e3
    go_enter Tryd.func28, Tryd.ntmps28
    go_wp2_with fail
    refine HC.out.mono ?_
    rintro e w1 ⟨rfl, hb1⟩
    have HD0 := hidC (H0.out w1 hb1)
    clear hb1 H0 HC
    go_wp2_with fail
    clear hi1 hi2
    go_loopg [5, 6, 7] n (fun gg s5 s6 _ wr => ∃ ii jj : Nat, s5 = .int .i64 ii ∧ s6 = .int .i64 jj ∧ n - jj ≤ gg ∧ Aside (∃ rs, DI w b0 G o n c os rs ii jj wr))
    case atStart => exact ⟨i, i + 1, rfl, by first | rfl | exact congrArg (Value.int .i64) ei, by clear ei; omega, os, HD0.out⟩
    case round =>
      clear HD0 ei
      obtain ⟨ii, jj, rfl, rfl, hg, HA⟩ := hrel
      obtain ⟨rs, hD⟩ := HA.out
      have hlen := HN.out
      have hnc := HNC.out
      have hij := hD.ij
      have hjn := hD.jn
      have hrl := hD.len
      by_cases hlt : jj < n
      · have hltz : (jj : Int) < (n : Int) := by omega
        have hget := hD.get hlt hlen.symm
        obtain ⟨-, -, -, -, -, hrg, hth⟩ := own_range hD.own
        have hx : ∀ k v, (oL os[jj]!)[k]? = some v → wr.cell? ⟨G, o + jj * 8 + k, none⟩ = some v := fun k v hv => by
          have hk : k < 8 := (List.getElem?_eq_some_iff.1 hv).1
          rw [← hget] at hv
          have := hrg (jj * 8 + k) v (by rw [wak.flat_get rs jj (by omega) k hk]; exact hv)
          rwa [← Nat.add_assoc] at this
        have HSK := hidC (fun (V : World) (hV : Below wr.heap.size wr V) (hz : nz os[jj]! = false) => hD.skip hlt hlen.symm hz hV)
        have HKP := hidC (fun (V : World) (hV : Below wr.heap.size wr V) (hz : nz os[jj]! = true) => hD.keep hlt hlen.symm hz hV)
        have HTH : Hid (∀ V, Below wr.heap.size wr V → V.there G (o + ii * 8) 8) := fun V hV j hj => by
          obtain ⟨-, -, -, -, -, -, hth⟩ := own_range (OwnM.below hD.own hV)
          rw [Nat.add_assoc]
          exact hth (ii * 8 + j) (by omega)
        rcases hxx : os[jj]! with ⟨a1, a2, a3, a4, a5, a6, a7, a8⟩
        rw [hxx] at hx HSK HKP
        have HCL : Hid (∀ V, Calls Tryd.prog 29 #[.agg #[.int .i64 a1, .int .i64 a2, .int .i64 a3, .int .i64 a4, .int .i64 a5, .int .i64 a6, .int .i64 a7, .int .i64 a8]] V fun e w' => e = .returned (.bool (decide (a6 = 0))) ∧ Below V.heap.size V w') := fun V => del_pred V V ⟨a1, a2, a3, a4, a5, a6, a7, a8⟩ (Below.refl _ _)
        have x0 := hx 0 _ rfl
        have x1 := hx 1 _ rfl
        have x2 := hx 2 _ rfl
        have x3 := hx 3 _ rfl
        have x4 := hx 4 _ rfl
        have x5 := hx 5 _ rfl
        have x6 := hx 6 _ rfl
        have x7 := hx 7 _ rfl
        simp only [Nat.add_zero] at x0
        have HM : Hid (jj < n ∧ n - jj ≤ gk ∧ jj ≤ 5000 ∧ ii ≤ 5000 ∧ ii < n) := ⟨hlt, hg, by omega, by omega, by omega⟩
        have hiz : (ii : Int) < (n : Int) := by omega
        have ej := succW jj HM.out.2.2.1
        have ei := succW ii HM.out.2.2.2.1
        have HAL : Hid (Below wr.heap.size wr (wr.alloc (.cells #[.int .i64 a1, .int .i64 a2, .int .i64 a3, .int .i64 a4, .int .i64 a5, .int .i64 a6, .int .i64 a7, .int .i64 a8] 44))) := (Below.refl _ _).alloc (Nat.le_refl _) _
        clear hx hxx hrg hth hget hD HA hg hlen hnc hij hjn hrl hlt
        go_wp2_with fail
        clear x0 x1 x2 x3 x4 x5 x6 x7
        refine (HCL.out _).mono ?_
        rintro e w2 ⟨rfl, hb2⟩
        have HB2 := hidC (HAL.out.trans (hb2.mono HAL.out.size))
        have hZ : w2.heap[wr.heap.size]? = some (.cells #[.int .i64 a1, .int .i64 a2, .int .i64 a3, .int .i64 a4, .int .i64 a5, .int .i64 a6, .int .i64 a7, .int .i64 a8] 44 (0, 0)) := (hb2.block _ (by simp)).trans (heap_alloc_new wr _)
        clear hb2 HCL HAL
        generalize wr.heap.size = Z at hZ ⊢
        by_cases hq : a6 = 0
        · have HNX := hidC (HSK.out w2 HB2.out (by unfold nz; rw [decide_eq_false (fun x => x hq)]))
          have hqd : decide (a6 = 0) = true := decide_eq_true hq
          rw [hqd]
          clear HSK HKP HTH hqd hq hZ
          go_wp2_with fail
          go_roundg (n - (jj + 1))
          case measure => have := HM.out; clear ei ej; omega
          case rel => exact ⟨ii, jj + 1, rfl, by first | rfl | exact congrArg (Value.int .i64) ej, Nat.le_refl _, _, HNX.out⟩
        · have HNX := hidC (HKP.out w2 HB2.out (by unfold nz; rw [decide_eq_true hq]))
          have hqd : decide (a6 = 0) = false := decide_eq_false hq
          have ht := HTH.out w2 HB2.out
          rw [hqd]
          have z0 : w2.cell? ⟨Z, 0, none⟩ = some (.int .i64 a1) := by simp [World.cell?, hZ]
          have z1 : w2.cell? ⟨Z, 1, none⟩ = some (.int .i64 a2) := by simp [World.cell?, hZ]
          have z2 : w2.cell? ⟨Z, 2, none⟩ = some (.int .i64 a3) := by simp [World.cell?, hZ]
          have z3 : w2.cell? ⟨Z, 3, none⟩ = some (.int .i64 a4) := by simp [World.cell?, hZ]
          have z4 : w2.cell? ⟨Z, 4, none⟩ = some (.int .i64 a5) := by simp [World.cell?, hZ]
          have z5 : w2.cell? ⟨Z, 5, none⟩ = some (.int .i64 a6) := by simp [World.cell?, hZ]
          have z6 : w2.cell? ⟨Z, 6, none⟩ = some (.int .i64 a7) := by simp [World.cell?, hZ]
          have z7 : w2.cell? ⟨Z, 7, none⟩ = some (.int .i64 a8) := by simp [World.cell?, hZ]
          have HTT := hidC ht
          clear HSK HKP HTH hqd hq hZ ht
          go_upto_region 9 with fail
          refine wp_region_lit ?_
          iterate 4 (refine wpList_step fun K hK => ?_; go_simp; refine hK _ _ ?_; clear hK K; try simp only [Act.put, List.setIfInBounds_toArray, List.set_cons_zero, List.set_cons_succ])
          refine wpList_store_mid rfl 44 (.tmp 33) (.tmp 32) rfl G (o + ii * 8) #[.int .i64 a1, .int .i64 a2, .int .i64 a3, .int .i64 a4, .int .i64 a5, .int .i64 a6, .int .i64 a7, .int .i64 a8] rfl rfl HTT.out (by kernel_rfl) (by simp [Value.oneCell']) ?_
          show wpList _ _ _ _ _ (w2.setCells G (o + ii * 8) (oL ⟨a1, a2, a3, a4, a5, a6, a7, a8⟩))
          generalize w2.setCells G (o + ii * 8) (oL ⟨a1, a2, a3, a4, a5, a6, a7, a8⟩) = w3 at HNX ⊢
          clear HTT z0 z1 z2 z3 z4 z5 z6 z7
          go_wp2_with fail
          go_roundg (n - (jj + 1))
          case measure => have := HM.out; clear ei ej; omega
          case rel => exact ⟨ii + 1, jj + 1, by first | rfl | exact congrArg (Value.int .i64) ei, by first | rfl | exact congrArg (Value.int .i64) ej, Nat.le_refl _, _, HNX.out⟩
      · have hje : jj = n := by omega
        subst hje
        have hltz : ¬ (jj : Int) < (jj : Int) := by omega
        obtain ⟨hr1, hb0', ⟨cur, hcur, hcs⟩, -, hcm, hrg, hth⟩ := own_range hD.own
        have hk := hD.kept
        rw [hlen, List.take_length] at hk
        have hml : ii = (os.filter nz).length := by rw [← hk, List.length_take]; omega
        have hcl : ∀ ty, (Builtin.clear_ #[22] ty #[.slice (some ⟨G, o + ii * 8, none⟩) (jj - ii) (c - ii)]).run Tryd.prog wr = .ok (.tuple #[]) (wr.setCells G (o + ii * 8) (Builtin.zeroCells zeroR.cells (jj - ii)).toList) :=
          fun ty => run_clear_wide wr _ _ ty zeroR 8 Tryd.underlying22 zeroVR rfl (by simp [zeroR, Value.cells, Value.oneCell']) G _ _ _ (by omega) (fun j hj => by rw [Nat.add_assoc]; exact hth (ii * 8 + j) (by omega))
        have HPOST : Hid (OwnM (wr.setCells G (o + ii * 8) (Builtin.zeroCells zeroR.cells (jj - ii)).toList) b0 44 8 (.slice (some ⟨G, o, none⟩) ii c) ii (flat (os.filter nz)) ∧ w.grownBy (wr.setCells G (o + ii * 8) (Builtin.zeroCells zeroR.cells (jj - ii)).toList) (some G)) := by
          obtain ⟨cur1, hb1, hs1⟩ := setCells_blk G 44 (0, 0) (Builtin.zeroCells zeroR.cells (jj - ii)).toList (o + ii * 8) wr cur hcur
          refine ⟨own_of (by rw [flat_len, ← hml]) hb0' hb1 (by rw [hs1]; exact hcs) (by omega) hcm ?_, gr_trans hD.gr (gr_setCells G _ _ _)⟩
          refine World.rangeAt_setCells_apart ?_ _ _ _ (.inr (.inl (by rw [flat_len, ← hml]; omega)))
          rw [← hk]
          have e : flat rs = flat (rs.take ii) ++ flat (rs.drop ii) := by rw [← flat_append, List.take_append_drop]
          rw [e] at hrg
          exact range_left hrg
        have HML := hidC hml
        have hic : ii ≤ c := by omega
        have hin : ii ≤ jj := by omega
        have hicz : ¬ (c : Int) = (ii : Int) := by omega
        have hicn : ¬ c = ii := by omega
        have hiz : (ii : Int) ≤ (jj : Int) := by omega
        have hiz2 : (ii : Int) ≤ (c : Int) := by omega
        have hjc : (jj : Int) ≤ (c : Int) := by omega
        generalize wr.setCells G (o + ii * 8) (Builtin.zeroCells zeroR.cells (jj - ii)).toList = W2 at hcl HPOST
        clear hr1 hb0' hcur hcs hcm hrg hth hk hml hD HA hg hlen hnc hij hjn hrl hlt
        go_wp2_with fail
        go_ret
        exact ⟨ii, rfl, HML.out, HPOST.out⟩
  · have HC : Hid (Calls Tryd.prog 42 #[.slice (some ⟨G, o, none⟩) n c, .func (.func 29) #[] #[]] w fun e w' => e = .returned (.int .i64 (-1)) ∧ Below w.heap.size w w') := hcon.mono fun e w' h => ⟨by rw [h.1]; congr 2, h.2⟩
    have HP : Hid (∀ V, Below w.heap.size w V → n = (os.filter nz).length ∧ OwnM V b0 44 8 (.slice (some ⟨G, o, none⟩) n c) n (flat (os.filter nz)) ∧ w.grownBy V (some G)) := fun V hV => by
      rw [filter_all e2]
      exact ⟨hn, OwnM.below ho hV, gr_below hV _⟩
    clear hcon hr1 hb0 hcur hcs hnc hcm hrg hth hGl hc63 eg hSL hLies hn h1000 ho e1 e2
    go_enter Tryd.func28, Tryd.ntmps28
    go_wp2_with fail
    refine HC.out.mono ?_
    rintro e w1 ⟨rfl, hb1⟩
    have HP1 := hidC (HP.out w1 hb1)
    clear hb1 HC HP
    go_wp2_with fail
    go_ret
    exact ⟨n, rfl, HP1.out⟩
end Go.Proofs.YtabcfmpmkdoieaaDoor.cal
