/- Contracts over this seat's translation: book.Check. -/
import Derived.Test.YtnjpjieedgmffaaBokClash
namespace Go.Proofs.Ytnjpjieedgmffaa.bok
open Go.RowKit Go.Proofs.Ytnjpjieedgmffaa.spn Go.Proofs.Ytnjpjieedgmffaa.que Go.Proofs.Ytnjpjieedgmffaa.sid

/-- What is wrong with a book. -/
def bookE (bs ss : List L) : Int :=
  if schk 1 bs = 0 then (if schk 2 ss = 0 then (if crossB bs ss = true then 8 else if twiceB (allR bs ++ allR ss) = true then 7 else if 60 < (allR bs ++ allR ss).length then 4 else 0) else schk 2 ss) else schk 1 bs
theorem side_ne {s : Int} {ls : List L} (h : schk s ls = 0) : ∀ l ∈ ls, l.rests ≠ [] := fun l hl => (lchk_zero (sgo_each (schk_zero h).2.1 l hl)).2.1
theorem side_wf {s : Int} {ls : List L} (h : schk s ls = 0) : ∀ r ∈ allR ls, (Lit.int .i64 r.id).wf = true := fun r hr => by
  obtain ⟨l, hl, hrl⟩ := List.mem_flatMap.1 hr
  exact id_wf (lchk_zero (sgo_each (schk_zero h).2.1 l hl)).2.2 hrl
theorem allR_len {s : Int} {ls : List L} (h : schk s ls = 0) : (allR ls).length ≤ 60 := by
  have := (schk_zero h).2.2.1
  rw [cnt_allR] at this
  omega

set_option maxRecDepth 100000 in
set_option maxHeartbeats 2000000 in
theorem check_any (q1 q2 : Option Addr) (n1 n2 c1 c2 : Nat) (bs ss : List L) (w : World) (h1 : LS w (.slice q1 n1 c1) bs) (h2 : LS w (.slice q2 n2 c2) ss) :
    Calls Try.prog 33 #[.agg #[.slice q1 n1 c1, .slice q2 n2 c2]] w fun e w' => e = .returned (errV (bookE bs ss)) ∧ Below w.heap.size w w' := by
  have H1 : Hid (∀ W, Below w.heap.size w W → LS W (.slice q1 n1 c1) bs) := fun W hW => h1.below hW
  have H2 : Hid (∀ W, Below w.heap.size w W → LS W (.slice q2 n2 c2) ss) := fun W hW => h2.below hW
  obtain ⟨V, hV⟩ : ∃ V, V = w.alloc (.cells #[.slice q1 n1 c1, .slice q2 n2 c2] 24) := ⟨_, rfl⟩
  have hB : Below w.heap.size w V := by rw [hV]; exact (Below.refl _ _).alloc (Nat.le_refl _) _
  have hR : V.heap[w.heap.size]? = some (.cells #[.slice q1 n1 c1, .slice q2 n2 c2] 24 (0, 0)) := by rw [hV]; exact heap_alloc_new w _
  have v0 : V.cell? ⟨w.heap.size, 0, none⟩ = some (.slice q1 n1 c1) := by simp [World.cell?, hR]
  have v1 : V.cell? ⟨w.heap.size, 1, none⟩ = some (.slice q2 n2 c2) := by simp [World.cell?, hR]
  have hVs : w.heap.size < V.heap.size := (Array.getElem?_eq_some_iff.1 hR).1
  have HB : Hid (Below w.heap.size w V) := hB
  have HC1 := fun W (hW : Below w.heap.size w W) => scheckS_any 1 _ bs W (H1.out W hW)
  have HC2 := fun W (hW : Below w.heap.size w W) => scheckS_any 2 _ ss W (H2.out W hW)
  clear h1 h2 hB hR
  by_cases e1 : schk 1 bs = 0
  · rw [e1, errV_zero] at HC1
    by_cases e2 : schk 2 ss = 0
    · rw [e2, errV_zero] at HC2
      have HCR := fun W (hW : Below w.heap.size w W) => crossed_any q1 q2 n1 n2 c1 c2 bs ss W (H1.out W hW) (H2.out W hW)
      cases hx : crossB bs ss
      · rw [hx] at HCR
        have HRE : Hid (∀ W, Below w.heap.size w W → Calls Try.prog 50 #[.agg #[.slice q1 n1 c1, .slice q2 n2 c2]] W fun e w' => ∃ v, e = .returned v ∧ OwnQ w' W.heap.size v (allR bs ++ allR ss) ∧ Below W.heap.size W w') := fun W hW => rests_any q1 q2 n1 n2 c1 c2 bs ss W (H1.out W hW) (H2.out W hW) (side_ne e1) (side_ne e2) (schk_zero e1).2.2.1 (schk_zero e2).2.2.1
        have HWF : Hid (∀ r ∈ allR bs ++ allR ss, (Lit.int .i64 r.id).wf = true) := fun r hr => (List.mem_append.1 hr).elim (side_wf e1 r) (side_wf e2 r)
        have hlen : (allR bs ++ allR ss).length ≤ 120 := by have := allR_len e1; have := allR_len e2; rw [List.length_append]; omega
        have hE : bookE bs ss = if twiceB (allR bs ++ allR ss) = true then 7 else if 60 < (allR bs ++ allR ss).length then 4 else 0 := by unfold bookE; rw [if_pos e1, if_pos e2, if_neg (by rw [hx]; simp)]
        rw [hE]
        clear hE hx e1 e2 H1 H2
        generalize allR bs ++ allR ss = AR at *
        have HCL := fun W v (hW : SL W v AR) => clash_any v AR W hW HWF.out (by omega)
        generalize twiceB AR = tw at *
        cases tw
        · rw [if_neg (by simp)]
          by_cases h60 : 60 < AR.length
          · rw [if_pos h60, errV_of (by omega)]
            go_enter Try.func33, Try.ntmps33
            go_wp2_with fail
            rw [← hV]
            refine (HC1 V HB.out).mono ?_
            rintro e w1 ⟨rfl, b1⟩
            have HB1 : Hid (Below w.heap.size w w1) := HB.out.trans (b1.mono HB.out.size)
            have x0 := keeps b1 v0
            have x1 := keeps b1 v1
            have hs1 : w.heap.size < w1.heap.size := Nat.lt_of_lt_of_le hVs b1.size
            clear b1 v0 v1 HC1
            go_wp2_with fail
            refine (HC2 w1 HB1.out).mono ?_
            rintro e w2 ⟨rfl, b2⟩
            have HB2 : Hid (Below w.heap.size w w2) := HB1.out.trans (b2.mono HB1.out.size)
            have y0 := keeps b2 x0
            have y1 := keeps b2 x1
            have hs2 : w.heap.size < w2.heap.size := Nat.lt_of_lt_of_le hs1 b2.size
            clear b2 x0 x1 HC2
            go_wp2_with fail
            refine (HCR w2 HB2.out).mono ?_
            rintro e w3 ⟨rfl, b3⟩
            have HB3 : Hid (Below w.heap.size w w3) := HB2.out.trans (b3.mono HB2.out.size)
            have z0 := keeps b3 y0
            have z1 := keeps b3 y1
            have hs3 : w.heap.size < w3.heap.size := Nat.lt_of_lt_of_le hs2 b3.size
            clear b3 y0 y1 HCR
            go_wp2_with fail
            refine (HRE.out w3 HB3.out).mono ?_
            rintro e w4 ⟨v, rfl, hO, b4⟩
            have HB4 : Hid (Below w.heap.size w w4) := HB3.out.trans (b4.mono HB3.out.size)
            obtain ⟨q4, c4, rfl⟩ := OwnM.form hO
            have HSL : Hid (SL w4 (.slice q4 AR.length c4) AR) := OwnQ.sl hO
            clear b4 z0 z1 HRE hO
            go_wp2_with fail
            refine (HCL w4 _ HSL.out).mono ?_
            rintro e w5 ⟨rfl, b5⟩
            have HB5 : Hid (Below w.heap.size w w5) := HB4.out.trans (b5.mono HB4.out.size)
            clear b5 HCL
            generalize AR.length = m at *
            have hm : (60 : Int) < (m : Int) := by omega
            go_wp2_with fail
            go_ret
            exact ⟨rfl, HB5.out⟩
          · rw [if_neg h60, errV_zero]
            go_enter Try.func33, Try.ntmps33
            go_wp2_with fail
            rw [← hV]
            refine (HC1 V HB.out).mono ?_
            rintro e w1 ⟨rfl, b1⟩
            have HB1 : Hid (Below w.heap.size w w1) := HB.out.trans (b1.mono HB.out.size)
            have x0 := keeps b1 v0
            have x1 := keeps b1 v1
            have hs1 : w.heap.size < w1.heap.size := Nat.lt_of_lt_of_le hVs b1.size
            clear b1 v0 v1 HC1
            go_wp2_with fail
            refine (HC2 w1 HB1.out).mono ?_
            rintro e w2 ⟨rfl, b2⟩
            have HB2 : Hid (Below w.heap.size w w2) := HB1.out.trans (b2.mono HB1.out.size)
            have y0 := keeps b2 x0
            have y1 := keeps b2 x1
            have hs2 : w.heap.size < w2.heap.size := Nat.lt_of_lt_of_le hs1 b2.size
            clear b2 x0 x1 HC2
            go_wp2_with fail
            refine (HCR w2 HB2.out).mono ?_
            rintro e w3 ⟨rfl, b3⟩
            have HB3 : Hid (Below w.heap.size w w3) := HB2.out.trans (b3.mono HB2.out.size)
            have z0 := keeps b3 y0
            have z1 := keeps b3 y1
            have hs3 : w.heap.size < w3.heap.size := Nat.lt_of_lt_of_le hs2 b3.size
            clear b3 y0 y1 HCR
            go_wp2_with fail
            refine (HRE.out w3 HB3.out).mono ?_
            rintro e w4 ⟨v, rfl, hO, b4⟩
            have HB4 : Hid (Below w.heap.size w w4) := HB3.out.trans (b4.mono HB3.out.size)
            obtain ⟨q4, c4, rfl⟩ := OwnM.form hO
            have HSL : Hid (SL w4 (.slice q4 AR.length c4) AR) := OwnQ.sl hO
            clear b4 z0 z1 HRE hO
            go_wp2_with fail
            refine (HCL w4 _ HSL.out).mono ?_
            rintro e w5 ⟨rfl, b5⟩
            have HB5 : Hid (Below w.heap.size w w5) := HB4.out.trans (b5.mono HB4.out.size)
            clear b5 HCL
            generalize AR.length = m at *
            have hm : ¬ (60 : Int) < (m : Int) := by omega
            go_wp2_with fail
            go_ret
            exact ⟨rfl, HB5.out⟩
        · rw [if_pos rfl, errV_of (by omega)]
          go_enter Try.func33, Try.ntmps33
          go_wp2_with fail
          rw [← hV]
          refine (HC1 V HB.out).mono ?_
          rintro e w1 ⟨rfl, b1⟩
          have HB1 : Hid (Below w.heap.size w w1) := HB.out.trans (b1.mono HB.out.size)
          have x0 := keeps b1 v0
          have x1 := keeps b1 v1
          have hs1 : w.heap.size < w1.heap.size := Nat.lt_of_lt_of_le hVs b1.size
          clear b1 v0 v1 HC1
          go_wp2_with fail
          refine (HC2 w1 HB1.out).mono ?_
          rintro e w2 ⟨rfl, b2⟩
          have HB2 : Hid (Below w.heap.size w w2) := HB1.out.trans (b2.mono HB1.out.size)
          have y0 := keeps b2 x0
          have y1 := keeps b2 x1
          have hs2 : w.heap.size < w2.heap.size := Nat.lt_of_lt_of_le hs1 b2.size
          clear b2 x0 x1 HC2
          go_wp2_with fail
          refine (HCR w2 HB2.out).mono ?_
          rintro e w3 ⟨rfl, b3⟩
          have HB3 : Hid (Below w.heap.size w w3) := HB2.out.trans (b3.mono HB2.out.size)
          have z0 := keeps b3 y0
          have z1 := keeps b3 y1
          have hs3 : w.heap.size < w3.heap.size := Nat.lt_of_lt_of_le hs2 b3.size
          clear b3 y0 y1 HCR
          go_wp2_with fail
          refine (HRE.out w3 HB3.out).mono ?_
          rintro e w4 ⟨v, rfl, hO, b4⟩
          have HB4 : Hid (Below w.heap.size w w4) := HB3.out.trans (b4.mono HB3.out.size)
          obtain ⟨q4, c4, rfl⟩ := OwnM.form hO
          have HSL : Hid (SL w4 (.slice q4 AR.length c4) AR) := OwnQ.sl hO
          clear b4 z0 z1 HRE hO
          go_wp2_with fail
          refine (HCL w4 _ HSL.out).mono ?_
          rintro e w5 ⟨rfl, b5⟩
          have HB5 : Hid (Below w.heap.size w w5) := HB4.out.trans (b5.mono HB4.out.size)
          clear b5 HCL
          go_wp2_with fail
          go_ret
          exact ⟨rfl, HB5.out⟩
      · rw [hx] at HCR
        have hE : bookE bs ss = 8 := by unfold bookE; rw [if_pos e1, if_pos e2, if_pos hx]
        rw [hE, errV_of (by omega)]
        clear hE hx e1 e2 H1 H2
        go_enter Try.func33, Try.ntmps33
        go_wp2_with fail
        rw [← hV]
        refine (HC1 V HB.out).mono ?_
        rintro e w1 ⟨rfl, b1⟩
        have HB1 : Hid (Below w.heap.size w w1) := HB.out.trans (b1.mono HB.out.size)
        have x0 := keeps b1 v0
        have x1 := keeps b1 v1
        have hs1 : w.heap.size < w1.heap.size := Nat.lt_of_lt_of_le hVs b1.size
        clear b1 v0 v1 HC1
        go_wp2_with fail
        refine (HC2 w1 HB1.out).mono ?_
        rintro e w2 ⟨rfl, b2⟩
        have HB2 : Hid (Below w.heap.size w w2) := HB1.out.trans (b2.mono HB1.out.size)
        have y0 := keeps b2 x0
        have y1 := keeps b2 x1
        have hs2 : w.heap.size < w2.heap.size := Nat.lt_of_lt_of_le hs1 b2.size
        clear b2 x0 x1 HC2
        go_wp2_with fail
        refine (HCR w2 HB2.out).mono ?_
        rintro e w3 ⟨rfl, b3⟩
        have HB3 : Hid (Below w.heap.size w w3) := HB2.out.trans (b3.mono HB2.out.size)
        clear b3 y0 y1 HCR
        go_wp2_with fail
        go_ret
        exact ⟨rfl, HB3.out⟩
    · have hE : bookE bs ss = schk 2 ss := by unfold bookE; rw [if_pos e1, if_neg e2]
      rw [errV_of e2] at HC2
      rw [hE, errV_of e2]
      generalize schk 2 ss = k at *
      clear hE e1 e2 H1 H2
      go_enter Try.func33, Try.ntmps33
      go_wp2_with fail
      rw [← hV]
      refine (HC1 V HB.out).mono ?_
      rintro e w1 ⟨rfl, b1⟩
      have HB1 : Hid (Below w.heap.size w w1) := HB.out.trans (b1.mono HB.out.size)
      have x0 := keeps b1 v0
      have x1 := keeps b1 v1
      have hs1 : w.heap.size < w1.heap.size := Nat.lt_of_lt_of_le hVs b1.size
      clear b1 v0 v1 HC1
      go_wp2_with fail
      refine (HC2 w1 HB1.out).mono ?_
      rintro e w2 ⟨rfl, b2⟩
      have HB2 : Hid (Below w.heap.size w w2) := HB1.out.trans (b2.mono HB1.out.size)
      clear b2 x0 x1 HC2
      go_wp2_with fail
      go_ret
      exact ⟨rfl, HB2.out⟩
  · have hE : bookE bs ss = schk 1 bs := by unfold bookE; rw [if_neg e1]
    rw [errV_of e1] at HC1
    rw [hE, errV_of e1]
    generalize schk 1 bs = k at *
    clear hE e1 H1 H2 HC2
    go_enter Try.func33, Try.ntmps33
    go_wp2_with fail
    rw [← hV]
    refine (HC1 V HB.out).mono ?_
    rintro e w1 ⟨rfl, b1⟩
    have HB1 : Hid (Below w.heap.size w w1) := HB.out.trans (b1.mono HB.out.size)
    clear b1 v0 v1 HC1
    go_wp2_with fail
    go_ret
    exact ⟨rfl, HB1.out⟩
theorem book_zero {bs ss : List L} (h : bookE bs ss = 0) : schk 1 bs = 0 ∧ schk 2 ss = 0 ∧ crossB bs ss = false ∧ twiceB (allR bs ++ allR ss) = false ∧ (allR bs ++ allR ss).length ≤ 60 := by
  unfold bookE at h
  by_cases h1 : schk 1 bs = 0
  · rw [if_pos h1] at h
    by_cases h2 : schk 2 ss = 0
    · rw [if_pos h2] at h
      by_cases h3 : crossB bs ss = true
      · rw [if_pos h3] at h; cases h
      · rw [if_neg h3] at h
        by_cases h4 : twiceB (allR bs ++ allR ss) = true
        · rw [if_pos h4] at h; cases h
        · rw [if_neg h4] at h
          by_cases h5 : 60 < (allR bs ++ allR ss).length
          · rw [if_pos h5] at h; cases h
          · exact ⟨h1, h2, by simpa using h3, by simpa using h4, by omega⟩
    · rw [if_neg h2] at h; exact absurd h h2
  · rw [if_neg h1] at h; exact absurd h h1
end Go.Proofs.Ytnjpjieedgmffaa.bok
