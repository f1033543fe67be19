/- Contracts over this seat's translation: queue.Check and queue.Total. -/
import Derived.Test.YtnjpjieedgmffaaQueArg
namespace Go.Proofs.Ytnjpjieedgmffaa.que
open Go.RowKit Go.Proofs.Ytnjpjieedgmffaa.spn

theorem lies_at {w : World} {b o k : Nat} {zs : List R} (h : Lies w b o zs) (hk : k < zs.length) {r1 r2 r3 r4 r5 : Int} (he : zs[k]! = ⟨r1, r2, r3, r4, r5⟩) :
    w.cell? ⟨b, o + k * 5, none⟩ = some (.int .i64 r1) ∧ w.cell? ⟨b, o + k * 5 + 1, none⟩ = some (.int .i64 r2) ∧ w.cell? ⟨b, o + k * 5 + 2, none⟩ = some (.int .i64 r3) ∧ w.cell? ⟨b, o + k * 5 + 3, none⟩ = some (.int .i64 r4) ∧ w.cell? ⟨b, o + k * 5 + 4, none⟩ = some (.int .i64 r5) := by
  have hh := h k hk
  rw [he] at hh
  exact ⟨hh 0 _ rfl, hh 1 _ rfl, hh 2 _ rfl, hh 3 _ rfl, hh 4 _ rfl⟩

theorem drop_at {zs : List R} {k : Nat} (hk : k < zs.length) : zs.drop k = zs[k]! :: zs.drop (k + 1) := by
  rw [List.drop_eq_getElem_cons hk, getE _ _ hk]
theorem take_at {zs : List R} {k : Nat} (hk : k < zs.length) : zs.take (k + 1) = zs.take k ++ [zs[k]!] := by
  rw [List.take_succ_eq_append_getElem hk, getE _ _ hk]

theorem sl_take {w : World} {b o c k : Nat} {zs : List R} (hk : k ≤ zs.length) (hc : zs.length ≤ c) (hm : c ≤ 9223372036854775807) (hb : b < w.heap.size) (h : Lies w b o zs) : SL w (.slice (some ⟨b, o, none⟩) k c) (zs.take k) := by
  refine .inr ⟨b, o, c, ?_, ?_, hm, hb, h.take k⟩
  · rw [List.length_take, Nat.min_eq_left hk]
  · rw [List.length_take]; omega

set_option maxRecDepth 100000 in
set_option maxHeartbeats 1000000 in
theorem qcheck_some (b o c : Nat) (zs : List R) (w : World) (hb : b < w.heap.size) (hc : zs.length ≤ c) (hm : c ≤ 9223372036854775807) (hl : Lies w b o zs) :
    Calls Try.prog 59 #[.slice (some ⟨b, o, none⟩) zs.length c] w fun e w' => e = .returned (errV (qchk zs)) ∧ Below w.heap.size w w' := by
  by_cases h60 : 60 < zs.length
  · have e : qchk zs = 4 := by unfold qchk; rw [if_pos h60]
    rw [e]
    clear hl e
    generalize zs.length = n at *
    have h60' : (60 : Int) < (n : Int) := by omega
    go_enter Try.func59, Try.ntmps59
    go_wp2
    go_ret
    exact ⟨rfl, Below.refl _ _⟩
  · have e : qchk zs = qgo [] zs := by unfold qchk; rw [if_neg h60]
    rw [e]
    clear e
    generalize hQ : qgo [] zs = Q
    have HQ : Hid (qgo [] zs = Q) := hQ
    clear hQ
    have HL : Hid (Lies w b o zs) := hl
    clear hl
    generalize hn : zs.length = n at *
    have HN : Hid (zs.length = n) := hn
    clear hn
    have h60' : ¬ (60 : Int) < (n : Int) := by omega
    go_enter Try.func59, Try.ntmps59
    go_wp2_with fail
    go_loopg [3, 4, 5, 12] n (fun gg _ _ _ s12 wr => ∃ kk : Nat, kk ≤ n ∧ n - kk ≤ gg ∧ s12 = .int .i64 kk ∧ Aside (Below w.heap.size w wr) ∧ Aside (qgo (zs.take kk) (zs.drop kk) = Q))
    case atStart => exact ⟨0, Nat.zero_le _, by omega, rfl, Below.refl _ w, HQ.out⟩
    case round =>
      obtain ⟨kk, hkk, hg, rfl, BW, A⟩ := hrel
      by_cases hlt : kk < n
      · have hltz : (kk : Int) < (n : Int) := by omega
        have hlz : kk < zs.length := by rw [HN.out]; exact hlt
        have LW : Hid (Lies wr b o zs) := HL.out.below hb BW.out
        obtain ⟨r, hr⟩ : ∃ r, zs[kk]! = r := ⟨_, rfl⟩
        obtain ⟨r1, r2, r3, r4, r5⟩ := r
        obtain ⟨c0, c1, c2, c3, c4⟩ := lies_at LW.out hlz hr
        have HR : Hid (zs[kk]! = ⟨r1, r2, r3, r4, r5⟩) := hr
        have hA : (if bchk (zs.take kk) ⟨r1, r2, r3, r4, r5⟩ = 0 then qgo (zs.take (kk + 1)) (zs.drop (kk + 1)) else bchk (zs.take kk) ⟨r1, r2, r3, r4, r5⟩) = Q := by
          have h := A.out
          rw [drop_at hlz, HR.out] at h
          rw [take_at hlz, HR.out]
          exact h
        have HA : Hid ((if bchk (zs.take kk) ⟨r1, r2, r3, r4, r5⟩ = 0 then qgo (zs.take (kk + 1)) (zs.drop (kk + 1)) else bchk (zs.take kk) ⟨r1, r2, r3, r4, r5⟩) = Q) := hA
        have hbw : b < wr.heap.size := Nat.lt_of_lt_of_le hb BW.out.size
        have hin1 : ¬ ((kk : Int) < 0) := by omega
        have hkc : ¬ ((c : Int) < (kk : Int)) := by omega
        have hkc2 : (kk : Int) ≤ (c : Int) := by omega
        have hBH := fun v W hW => behind_any v (zs.take kk) r1 r2 r3 r4 r5 W hW
        have HB : Hid (∀ v W, SL W v (zs.take kk) → Calls Try.prog 71 #[v, .agg #[.int .i64 r1, .int .i64 r2, .int .i64 r3, .int .i64 r4, .int .i64 r5]] W fun x w' => x = .returned (errV (bchk (zs.take kk) ⟨r1, r2, r3, r4, r5⟩)) ∧ Below W.heap.size W w') := hBH
        clear hA hr hBH A
        generalize bchk (zs.take kk) ⟨r1, r2, r3, r4, r5⟩ = k at HA HB
        go_upto_region 6 with fail
        have hV : Below w.heap.size w (wr.alloc (.cells #[.int .i64 r1, .int .i64 r2, .int .i64 r3, .int .i64 r4, .int .i64 r5] 28)) := BW.out.alloc BW.out.size _
        have hR := heap_alloc_new wr (.cells #[.int .i64 r1, .int .i64 r2, .int .i64 r3, .int .i64 r4, .int .i64 r5] 28)
        have HSL : Hid (SL (wr.alloc (.cells #[.int .i64 r1, .int .i64 r2, .int .i64 r3, .int .i64 r4, .int .i64 r5] 28)) (.slice (some ⟨b, o, none⟩) kk c) (zs.take kk)) := (sl_take (by rw [HN.out]; exact hkk) (by rw [HN.out]; exact hc) hm hbw LW.out).below ((Below.refl _ _).alloc (Nat.le_refl _) _)
        generalize wr.alloc (.cells #[.int .i64 r1, .int .i64 r2, .int .i64 r3, .int .i64 r4, .int .i64 r5] 28) = V at *
        generalize wr.heap.size = G at *
        have cel : ∀ i, V.cell? ⟨G, i, none⟩ = (#[.int .i64 r1, .int .i64 r2, .int .i64 r3, .int .i64 r4, .int .i64 r5] : Array Value)[i]? := fun i => by simp [World.cell?, hR]
        have d0 := cel 0
        have d1 := cel 1
        have d2 := cel 2
        have d3 := cel 3
        have d4 := cel 4
        simp only [List.getElem?_toArray, List.getElem?_cons_zero, List.getElem?_cons_succ] at d0 d1 d2 d3 d4
        clear cel hR c0 c1 c2 c3 c4
        have SO : Hid (∀ W, Below V.heap.size V W → (Below V.heap.size V W ∧ W.cell? ⟨G, 0, none⟩ = some (.int .i64 r1) ∧ W.cell? ⟨G, 1, none⟩ = some (.int .i64 r2) ∧ W.cell? ⟨G, 2, none⟩ = some (.int .i64 r3) ∧ W.cell? ⟨G, 3, none⟩ = some (.int .i64 r4) ∧ W.cell? ⟨G, 4, none⟩ = some (.int .i64 r5))) := fun W hW => ⟨hW, keeps hW d0, keeps hW d1, keeps hW d2, keeps hW d3, keeps hW d4⟩
        go_region_held3 (fun W => Below V.heap.size V W ∧ W.cell? ⟨G, 0, none⟩ = some (.int .i64 r1) ∧ W.cell? ⟨G, 1, none⟩ = some (.int .i64 r2) ∧ W.cell? ⟨G, 2, none⟩ = some (.int .i64 r3) ∧ W.cell? ⟨G, 3, none⟩ = some (.int .i64 r4) ∧ W.cell? ⟨G, 4, none⟩ = some (.int .i64 r5))
          ((refine SO.out _ ?_; (repeat' (first | with_reducible assumption | with_reducible refine bal ?_ _ | with_reducible refine Below.setCell ?_ ?_ _ | with_reducible refine Below.drew ?_ | with_reducible exact Below.refl _ _ | with_reducible exact Nat.le_refl _ | with_reducible exact Below.size (by with_reducible assumption) | with_reducible refine Nat.le_succ_of_le ?_))))
          (first | (go_at_call 71; refine (HB.out _ _ ?_).mono ?_; exact HSL.out.below (Below.refl _ _).drew; rintro x W ⟨rfl, hbs⟩; have hbn : Below V.heap.size V W := (Below.refl _ _).drew.trans hbs))
        have hW : Below w.heap.size w W := hV.trans (hbn.mono hV.size)
        clear SO d0 d1 d2 d3 d4 hbs hbn hV HSL
        by_cases hk : k = 0
        · subst hk
          rw [if_pos rfl] at HA
          simp only [errV_zero]
          go_wp2_with fail
          go_roundg (n - (kk + 1))
          case measure => omega
          case rel => exact ⟨kk + 1, by omega, by omega, by go_num, hW, HA.out⟩
        · rw [if_neg hk] at HA
          simp only [errV_of hk]
          go_wp2_with fail
          go_ret
          exact ⟨by rw [← HA.out, errV_of hk]; rfl, hW⟩
      · have hltz : ¬ (kk : Int) < (n : Int) := by omega
        have : kk = n := by omega
        subst this
        go_wp2_with fail
        go_ret
        refine ⟨?_, BW.out⟩
        have h := A.out
        rw [List.drop_eq_nil_of_le (by rw [HN.out]; exact Nat.le_refl _)] at h
        rw [← h]; rfl

theorem qcheck_nil (w : World) :
    Calls Try.prog 59 #[.slice none 0 0] w fun e w' => e = .returned (errV (qchk [])) ∧ Below w.heap.size w w' := by
  go_enter Try.func59, Try.ntmps59
  go_wp2_with fail
  go_loopg [3, 4, 5, 12] 0 (fun _ _ _ _ s12 wr => s12 = .int .i64 0 ∧ wr = w)
  case atStart => exact ⟨rfl, rfl⟩
  case round =>
    obtain ⟨rfl, rfl⟩ := hrel
    go_wp2_with fail
    go_ret
    exact ⟨rfl, Below.refl _ _⟩

/-- Check, at every queue. -/
theorem qcheck_any (v : Value) (zs : List R) (w : World) (h : SL w v zs) :
    Calls Try.prog 59 #[v] w fun e w' => e = .returned (errV (qchk zs)) ∧ Below w.heap.size w w' := by
  rcases h with ⟨rfl, rfl⟩ | ⟨b, o, c, rfl, h2, h3, h4, h5⟩
  · exact qcheck_nil w
  · exact qcheck_some b o c zs w h4 h2 h3 h5

theorem tot_take (zs : List R) (k : Nat) (hk : k < zs.length) : tot (zs.take (k + 1)) = tot (zs.take k) + (zs[k]!.qty + zs[k]!.hid) := by
  rw [take_at hk, tot_append]; simp only [tot]; omega

set_option maxRecDepth 100000 in
set_option maxHeartbeats 1000000 in
theorem total_some (b o c : Nat) (zs : List R) (w : World) (hb : b < w.heap.size) (hc : zs.length ≤ c) (hm : c ≤ 9223372036854775807) (hl : Lies w b o zs) (h0 : qchk zs = 0) :
    Calls Try.prog 41 #[.slice (some ⟨b, o, none⟩) zs.length c] w fun e w' => e = .returned (.tuple #[.int .i64 (tot zs), .nilIface]) ∧ Below w.heap.size w w' := by
  have hcon := qcheck_some b o c zs w hb hc hm hl
  rw [h0, errV_zero] at hcon
  obtain ⟨h60, hG⟩ := (qchk_zero zs).1 h0
  have HG : Hid (Good zs) := hG
  have HL : Hid (Lies w b o zs) := hl
  clear hl h0 hG
  generalize hT : tot zs = T
  have HT : Hid (tot zs = T) := hT
  clear hT
  generalize hn : zs.length = n at *
  have HN : Hid (zs.length = n) := hn
  clear hn
  go_enter Try.func41, Try.ntmps41
  go_wp2_with fail
  refine hcon.mono ?_
  rintro e w1 ⟨rfl, hb1⟩
  have HB1 : Hid (Below w.heap.size w w1) := hb1
  clear hcon hb1
  go_wp2_with fail
  go_loopg [5, 7, 15] n (fun gg s5 _ s15 wr => ∃ kk : Nat, kk ≤ n ∧ n - kk ≤ gg ∧ s15 = .int .i64 kk ∧ s5 = .int .i64 (tot (zs.take kk)) ∧ Aside (Below w.heap.size w wr))
  case atStart => exact ⟨0, Nat.zero_le _, by omega, rfl, rfl, HB1.out⟩
  case round =>
    obtain ⟨kk, hkk, hg, rfl, rfl, BW⟩ := hrel
    have hA : Hid (0 ≤ tot (zs.take kk) ∧ tot (zs.take kk) ≤ 20000 * (kk : Int)) := by
      have := tot_le (zs.take kk) (fun r hr => HG.out.1 r (List.mem_of_mem_take hr))
      rw [List.length_take, HN.out, Nat.min_eq_left hkk] at this
      exact this
    by_cases hlt : kk < n
    · have hltz : (kk : Int) < (n : Int) := by omega
      have hlz : kk < zs.length := by rw [HN.out]; exact hlt
      have LW : Hid (Lies wr b o zs) := HL.out.below hb BW.out
      obtain ⟨r, hr⟩ : ∃ r, zs[kk]! = r := ⟨_, rfl⟩
      obtain ⟨r1, r2, r3, r4, r5⟩ := r
      obtain ⟨c0, c1, c2, c3, c4⟩ := lies_at LW.out hlz hr
      have hq := rchk_zero (HG.out.1 zs[kk]! (by rw [getE _ _ hlz]; exact List.getElem_mem hlz))
      rw [hr] at hq
      obtain ⟨⟨q1, q2⟩, ⟨q3, q4⟩, -⟩ := hq
      simp only [] at q1 q2 q3 q4
      have hTT : Hid (tot (zs.take (kk + 1)) = tot (zs.take kk) + (r3 + r4)) := by
        have := tot_take zs kk hlz
        rw [hr] at this
        exact this
      clear hr
      obtain ⟨t1, t2⟩ := hA.out
      clear hA
      have hbw : b < wr.heap.size := Nat.lt_of_lt_of_le hb BW.out.size
      have hin1 : ¬ ((kk : Int) < 0) := by omega
      have e1 : wrap64 (r3 + r4) = r3 + r4 := by unfold wrap64; omega
      have e2 : wrap64 (tot (zs.take kk) + (r3 + r4)) = tot (zs.take kk) + (r3 + r4) := by unfold wrap64; omega
      go_wp2_with fail
      go_roundg (n - (kk + 1))
      case measure => omega
      case rel => exact ⟨kk + 1, by omega, by omega, by go_num, by rw [hTT.out], BW.out.alloc BW.out.size _⟩
    · have hltz : ¬ (kk : Int) < (n : Int) := by omega
      have hk : kk = n := by omega
      subst hk
      have hT2 : tot (zs.take kk) = T := by rw [← HT.out, List.take_of_length_le (by rw [HN.out]; exact Nat.le_refl _)]
      rw [hT2]
      go_wp2_with fail
      go_ret2
      exact ⟨rfl, BW.out⟩

theorem total_bad (v : Value) (zs : List R) (w : World) (h : SL w v zs) (h0 : ¬ qchk zs = 0) :
    Calls Try.prog 41 #[v] w fun e w' => e = .returned (.tuple #[.int .i64 0, errV (qchk zs)]) ∧ Below w.heap.size w w' := by
  have hcon := qcheck_any v zs w h
  rw [errV_of h0] at hcon ⊢
  generalize qchk zs = k at *
  clear h
  go_enter Try.func41, Try.ntmps41
  go_wp2_with fail
  refine hcon.mono ?_
  rintro e w1 ⟨rfl, hb1⟩
  clear hcon
  go_wp2_with fail
  go_ret2
  exact ⟨rfl, hb1⟩

theorem total_nil (w : World) :
    Calls Try.prog 41 #[.slice none 0 0] w fun e w' => e = .returned (.tuple #[.int .i64 0, .nilIface]) ∧ Below w.heap.size w w' := by
  go_enter Try.func41, Try.ntmps41
  go_wp2_with fail
  refine (qcheck_nil w).mono ?_
  rintro e w1 ⟨rfl, hb1⟩
  simp only [show errV (qchk []) = .nilIface from rfl]
  have HB1 : Hid (Below w.heap.size w w1) := hb1
  clear hb1
  go_wp2_with fail
  go_loopg [5, 7, 15] 0 (fun _ s5 _ s15 wr => s15 = .int .i64 0 ∧ s5 = .int .i64 0 ∧ wr = w1)
  case atStart => exact ⟨rfl, rfl, rfl⟩
  case round =>
    obtain ⟨rfl, rfl, rfl⟩ := hrel
    go_wp2_with fail
    go_ret2
    exact ⟨rfl, HB1.out⟩

/-- Total, at every queue. -/
theorem total_any (v : Value) (zs : List R) (w : World) (h : SL w v zs) :
    Calls Try.prog 41 #[v] w fun e w' => e = .returned (.tuple #[.int .i64 (if qchk zs = 0 then tot zs else 0), errV (qchk zs)]) ∧ Below w.heap.size w w' := by
  by_cases h0 : qchk zs = 0
  · rw [if_pos h0]
    rw [h0, errV_zero]
    rcases h with ⟨rfl, rfl⟩ | ⟨b, o, c, rfl, h2, h3, h4, h5⟩
    · exact total_nil w
    · exact total_some b o c zs w h4 h2 h3 h5 h0
  · rw [if_neg h0]
    exact total_bad v zs w h h0

end Go.Proofs.Ytnjpjieedgmffaa.que
