/- Contracts over this seat's translation: side.places. -/
import Derived.Test.YtnjpjieedgmffaaSidPure
namespace Go.Proofs.Ytnjpjieedgmffaa.sid
open Go.RowKit Go.Proofs.Ytnjpjieedgmffaa.spn Go.Proofs.Ytnjpjieedgmffaa.que Go.Maps
open Go.Proofs.Ytnjpjieedgmffaa.tickP (priceB sideB betOk betR)

/-- What places answers. -/
def PlacesPost (s : Int) (ls : List L) (w : World) (e : Ending) (w' : World) : Prop :=
  Below w.heap.size w w' ∧ ((¬ schk s ls = 0 ∧ e = .returned (.tuple #[.map none, errV (schk s ls)])) ∨ (schk s ls = 0 ∧ ∃ B, w.heap.size ≤ B ∧ e = .returned (.tuple #[.map (some B), .nilIface]) ∧ Own w' B (flatP 0 ls)))
theorem belowN {n : Nat} {w W : World} (h : Below n w W) (k : Nat) : Below n w (W.drewN k) := by
  induction k with
  | zero => exact h
  | succ k ih => rw [← World.drew_drewN]; exact ih.drew
/-- How many entries the map of places has. -/
def seenN (ls : List L) : Nat := Maps.size (mapD (flatP 0 ls))
theorem seen_all {ls : List L} (h : (ids ls).Nodup) : ((seenN ls : Nat) : Int) = cnt ls := by
  unfold seenN; rw [(mapD_size _).2 h, flatP_len]
theorem seen_less {ls : List L} (h : ¬ (ids ls).Nodup) : ((seenN ls : Nat) : Int) < cnt ls := by
  have h1 := mapD_le (flatP 0 ls)
  have h2 : ¬ Maps.size (mapD (flatP 0 ls)) = (flatP 0 ls).length := fun e => h ((mapD_size _).1 e)
  have h3 := flatP_len 0 ls
  unfold seenN
  omega
theorem side_span (s : Int) : [(s, 1, 2)].any spanB = !sideB s := by
  rw [Bool.eq_iff_iff]; simp [spanB, sideB]; omega

theorem places_side (s : Int) (q : Option Addr) (m c : Nat) (ls : List L) (w : World) (hk : sideB s = false) :
    Calls Try.prog 63 #[.int .i64 s, .slice q m c] w fun e w' => PlacesPost s ls w e w' := by
  have HS : Hid ([(s, 1, 2)].any spanB = true) := by have := side_span s; rw [hk] at this; exact this
  have HP : Hid (∀ W, Below w.heap.size w W → PlacesPost s ls w (.returned (.tuple #[.map none, .iface 64 (.int .i64 1)])) W) := fun W hW => ⟨hW, .inl ⟨by rw [schk_side hk]; omega, by rw [schk_side hk]; rfl⟩⟩
  generalize PlacesPost s ls w = POST at *
  clear hk
  go_enter Try.func63, Try.ntmps63
  go_wp2_with fail
  refine (side_any s w).mono ?_
  rintro e w1 ⟨rfl, h1⟩
  go_wp2_with fail
  refine (scheck1 true _ _ _ _ _ rfl HS.out).mono ?_
  rintro e w2 ⟨rfl, h2⟩
  simp only [show errV (rangeE true) = .iface 64 (.int .i64 1) from rfl]
  have HD : Hid (Below w.heap.size w w2) := h1.trans (h2.mono h1.size)
  clear h1 h2
  go_wp2_with fail
  exact HP.out _ HD.out

set_option maxRecDepth 100000 in
set_option maxHeartbeats 4000000 in
theorem places_some (s : Int) (b o c : Nat) (ls : List L) (w : World) (hb : b < w.heap.size) (hc : ls.length ≤ c) (hm : c ≤ 9223372036854775807) (hl : LL w b o ls) (hk : sideB s = true) :
    Calls Try.prog 63 #[.int .i64 s, .slice (some ⟨b, o, none⟩) ls.length c] w fun e w' => PlacesPost s ls w e w' := by
  have HS : Hid ([(s, 1, 2)].any spanB = false) := by have := side_span s; rw [hk] at this; exact this
  have HL : Hid (LL w b o ls) := hl
  have HLS : Hid (∀ W, Below w.heap.size w W → LS W (.slice (some ⟨b, o, none⟩) ls.length c) ls) := fun W hW => LS.below (.inr ⟨b, o, c, rfl, hc, hm, hb, hl⟩) hW
  generalize hQ : sgo s none ls = Q
  have HQ : Hid (sgo s none ls = Q) := hQ
  have HGO : Hid (∀ W, Below w.heap.size w W → ¬ Q = 0 → PlacesPost s ls w (.returned (.tuple #[.map none, errV Q])) W) := fun W hW h0 => by
    have e := schk_go (ls := ls) hk (by rw [hQ]; exact h0)
    rw [hQ] at e
    exact ⟨hW, .inl ⟨by rw [e]; exact h0, by rw [e]⟩⟩
  have HFULL : Hid (∀ W, Below w.heap.size w W → Q = 0 → 60 < cnt ls → PlacesPost s ls w (.returned (.tuple #[.map none, .iface 64 (.int .i64 4)])) W) := fun W hW h0 h60 => by
    have e := schk_full (ls := ls) hk (by rw [hQ]; exact h0) h60
    exact ⟨hW, .inl ⟨by rw [e]; omega, by rw [e]; rfl⟩⟩
  have HTWO : Hid (∀ W, Below w.heap.size w W → Q = 0 → ¬ 60 < cnt ls → ¬ (ids ls).Nodup → PlacesPost s ls w (.returned (.tuple #[.map none, .iface 64 (.int .i64 7)])) W) := fun W hW h0 h60 hd => by
    have e := schk_two (ls := ls) hk (by rw [hQ]; exact h0) h60 hd
    exact ⟨hW, .inl ⟨by rw [e]; omega, by rw [e]; rfl⟩⟩
  have HOK : Hid (∀ W B, Below w.heap.size w W → Q = 0 → ¬ 60 < cnt ls → (ids ls).Nodup → w.heap.size ≤ B → Own W B (flatP 0 ls) → PlacesPost s ls w (.returned (.tuple #[.map (some B), .nilIface])) W) := fun W B hW h0 h60 hd hB hO => by
    have e := schk_ok (ls := ls) hk (by rw [hQ]; exact h0) h60 hd
    exact ⟨hW, .inr ⟨e, B, hB, rfl, hO⟩⟩
  have HEND : Hid (Q = 0 → (∀ l ∈ ls, qchk l.rests = 0) ∧ ls.length ≤ 10000) := fun h0 => ⟨fun l hl => (lchk_zero (sgo_each (by rw [hQ]; exact h0) l hl)).2.2, sgo_len hk (by rw [hQ]; exact h0)⟩
  generalize PlacesPost s ls w = POST at *
  clear hl hQ hk
  generalize hn : ls.length = n at *
  have HN : Hid (ls.length = n) := hn
  clear hn
  go_enter Try.func63, Try.ntmps63
  go_wp2_with fail
  refine (side_any s w).mono ?_
  rintro e w1 ⟨rfl, h1⟩
  go_wp2_with fail
  refine (scheck1 false _ _ _ _ _ rfl HS.out).mono ?_
  rintro e w2 ⟨rfl, h2⟩
  simp only [show errV (rangeE false) = .nilIface from rfl]
  have HD : Hid (Below w.heap.size w w2) := h1.trans (h2.mono h1.size)
  clear h1 h2
  go_wp2_with fail
  go_loopg [7, 8, 9, 21] n (fun gg _ _ _ s21 wr => ∃ kk : Nat, kk ≤ n ∧ n - kk ≤ gg ∧ s21 = .int .i64 kk ∧ Aside (Below w.heap.size w wr) ∧ Aside (sgo s (prevAt ls kk) (ls.drop kk) = Q))
  case atStart => exact ⟨0, Nat.zero_le _, by omega, rfl, HD.out, HQ.out⟩
  case round =>
    obtain ⟨kk, hkk, hg, rfl, BW, A⟩ := hrel
    by_cases hlt : kk < n
    · have hltz : (kk : Int) < (n : Int) := by omega
      have hlz : kk < ls.length := by rw [HN.out]; exact hlt
      obtain ⟨r, hr⟩ : ∃ r, ls[kk]! = r := ⟨_, rfl⟩
      obtain ⟨p, zs⟩ := r
      obtain ⟨q, cc, a0, a1, hs⟩ := HL.out.at hlz hr
      have c0 := keeps BW.out a0
      have c1 := keeps BW.out a1
      have hA := A.out
      rw [sgo_at hlz, hr] at hA
      simp only [] at hA
      have HA : Hid ((if lchk ⟨p, zs⟩ = 0 then (if behindB s (prevAt ls kk) p = true then sgo s (prevAt ls (kk + 1)) (ls.drop (kk + 1)) else 7) else lchk ⟨p, zs⟩) = Q) := hA
      have hin1 : ¬ ((kk : Int) < 0) := by omega
      have hcl := fun W (h : SLe W (.slice q zs.length cc) zs) => checkLevel_any p (.slice q zs.length cc) zs W h
      have HC : Hid (∀ W, SLe W (.slice q zs.length cc) zs → Calls Try.prog 76 #[.agg #[.int .i64 p, .slice q zs.length cc]] W fun e w' => e = .returned (errV (lchk ⟨p, zs⟩)) ∧ Below W.heap.size W w') := hcl
      have SW : Hid (∀ W, Below w.heap.size w W → SLe W (.slice q zs.length cc) zs) := fun W hW => hs.below hW
      have hR := heap_alloc_new wr (.cells #[.int .i64 p, .slice q zs.length cc] 31)
      have HV : Hid (Below w.heap.size w (wr.alloc (.cells #[.int .i64 p, .slice q zs.length cc] 31))) := BW.out.alloc BW.out.size _
      clear hr hA hcl A a1
      generalize lchk ⟨p, zs⟩ = k at *
      generalize zs.length = m at *
      go_wp2_with fail
      generalize wr.alloc (.cells #[.int .i64 p, .slice q m cc] 31) = V at *
      have d0 : V.cell? ⟨wr.heap.size, 0, none⟩ = some (.int .i64 p) := by simp [World.cell?, hR]
      refine (HC.out V (SW.out V HV.out)).mono ?_
      rintro e w3 ⟨rfl, h3⟩
      have HW3 : Hid (Below w.heap.size w w3) := HV.out.trans (h3.mono HV.out.size)
      have e0 := keeps h3 d0
      clear h3 hR d0 HC SW
      by_cases hk : k = 0
      · subst hk
        rw [if_pos rfl] at HA
        simp only [errV_zero]
        by_cases hz : kk = 0
        · have hB : behindB s (prevAt ls kk) p = true := by rw [hz]; rfl
          rw [if_pos hB] at HA
          have hz' : ¬ (0 : Int) < (kk : Int) := by omega
          have hz0 : ¬ 0 < kk := by omega
          clear hz hB
          have hz1 : decide (0 < kk) = false := by simp; omega
          have hz2 : decide ((0 : Int) < (kk : Int)) = false := by simp; omega
          go_upto_region 10 with fail
          go_quiet (fail)
          go_wp2_with fail
          go_roundg (n - (kk + 1))
          case measure => omega
          case rel => exact ⟨kk + 1, by omega, by omega, by go_num, belowN HW3.out _, HA.out⟩
        · obtain ⟨j, hkj⟩ : ∃ j, kk = j + 1 := ⟨kk - 1, by omega⟩
          have hj : j < ls.length := by omega
          obtain ⟨r, hr⟩ : ∃ r, ls[j]! = r := ⟨_, rfl⟩
          obtain ⟨p', zs'⟩ := r
          obtain ⟨q', cc', f0, f1, hs'⟩ := HL.out.at hj hr
          have g0 := keeps HW3.out f0
          have hB : behindB s (prevAt ls kk) p = leadB s p' p := by rw [hkj, prevAt_succ, hr]; rfl
          rw [hB] at HA
          have HLD : Hid (∀ W, Below w3.heap.size w3 W → Calls Try.prog 77 #[.int .i64 s, .int .i64 p', .int .i64 p] W fun e w' => e = .returned (.bool (leadB s p' p)) ∧ Below w3.heap.size w3 w') := fun W hW => leads_V w3 s p' p W hW
          clear hr hB hs' f0 f1
          generalize leadB s p' p = ld at *
          have i1 : wrap64 ((kk : Int) - 1) = (j : Int) := by unfold wrap64; omega
          have i2 : IntKind.i64.wrap ((kk : Int) - 1) = (j : Int) := (IntWalk.i64_left _).trans i1
          have i3 : (0 : Int) < (kk : Int) := by omega
          have i4 : 0 < kk := by omega
          have i7 : (0 : Int) ≤ (j : Int) := by omega
          have i8 : j < n := by omega
          have i5 : ¬ (j : Int) < 0 := by omega
          have i6 : (j : Int) < (n : Int) := by omega
          clear hkj hz
          have SO : Hid (∀ W, Below w3.heap.size w3 W → (Below w3.heap.size w3 W ∧ W.cell? ⟨wr.heap.size, 0, none⟩ = some (.int .i64 p) ∧ W.cell? ⟨b, o + j * 2, none⟩ = some (.int .i64 p'))) := fun W hW => ⟨hW, keeps hW e0, keeps hW g0⟩
          go_upto_region 10 with fail
          go_region_held3 (fun W => Below w3.heap.size w3 W ∧ W.cell? ⟨wr.heap.size, 0, none⟩ = some (.int .i64 p) ∧ W.cell? ⟨b, o + j * 2, none⟩ = some (.int .i64 p'))
            ((refine SO.out _ ?_; (repeat' (first | with_reducible assumption | with_reducible refine bal ?_ _ | with_reducible refine Below.setCell ?_ ?_ _ | with_reducible refine Below.drew ?_ | with_reducible exact Below.refl _ _ | with_reducible exact Nat.le_refl _ | with_reducible exact Below.size (by with_reducible assumption) | with_reducible refine Nat.le_succ_of_le ?_))))
            (first | (go_at_call 77; refine (HLD.out _ ?_).mono ?_; (repeat' (first | with_reducible assumption | with_reducible refine bal ?_ _ | with_reducible refine Below.setCell ?_ ?_ _ | with_reducible refine Below.drew ?_ | with_reducible exact Below.refl _ _ | with_reducible exact Nat.le_refl _ | with_reducible exact Below.size (by with_reducible assumption) | with_reducible refine Nat.le_succ_of_le ?_)); rintro x W ⟨rfl, hbn⟩))
          have HW4 : Hid (Below w.heap.size w W) := HW3.out.trans (hbn.mono HW3.out.size)
          clear SO HLD hbn
          cases ld
          · have h7 : 7 = Q := by have := HA.out; simpa using this
            have HX := HGO.out _ HW4.out (by omega)
            rw [← h7, errV_of (by omega)] at HX
            clear h7 HA
            go_wp2_with fail
            exact HX
          · rw [if_pos rfl] at HA
            go_wp2_with fail
            go_roundg (n - (kk + 1))
            case measure => omega
            case rel => exact ⟨kk + 1, by omega, by omega, by go_num, HW4.out, HA.out⟩
      · rw [if_neg hk] at HA
        simp only [errV_of hk]
        have HX := HGO.out _ HW3.out (by rw [← HA.out]; exact hk)
        rw [← HA.out, errV_of hk] at HX
        go_wp2_with fail
        exact HX
    · have hltz : ¬ (kk : Int) < (n : Int) := by omega
      have hk : kk = n := by omega
      have hQ0 : Q = 0 := by
        have h := A.out
        rw [List.drop_eq_nil_of_le (by rw [HN.out]; omega)] at h
        exact h.symm
      obtain ⟨hq, h10⟩ := HEND.out hQ0
      have HCNT : Hid (∀ W, Below w.heap.size w W → Calls Try.prog 78 #[.slice (some ⟨b, o, none⟩) n c] W fun e w' => e = .returned (.int .i64 (cnt ls)) ∧ Below W.heap.size W w') := fun W hW => count_any _ ls W (HLS.out W hW) (fun l hl => ((qchk_zero _).1 (hq l hl)).1) (by rw [HN.out]; exact h10)
      have HSEE : Hid (∀ W, Below w.heap.size w W → Calls Try.prog 79 #[.slice (some ⟨b, o, none⟩) n c] W fun e w' => e = .returned (.map (some W.heap.size)) ∧ Own w' W.heap.size (flatP 0 ls) ∧ Below W.heap.size W w') := fun W hW => see_any _ ls W (HLS.out W hW) hq (by rw [HN.out]; exact h10)
      have HALL : Hid ((ids ls).Nodup → ((seenN ls : Nat) : Int) = cnt ls) := seen_all
      have HLESS : Hid (¬ (ids ls).Nodup → ((seenN ls : Nat) : Int) < cnt ls) := seen_less
      have HLEN : Hid (∀ W B, Own W B (flatP 0 ls) → W.ownsMap Try.prog 3 plR B (flatP 0 ls).length (mapD (flatP 0 ls)) ∧ Maps.size (mapD (flatP 0 ls)) = seenN ls) := fun W B h => ⟨h, rfl⟩
      clear hq h10 A hk
      generalize cnt ls = T at *
      go_wp2_with fail
      refine (HCNT.out _ BW.out).mono ?_
      rintro e w3 ⟨rfl, h3⟩
      have HW3 : Hid (Below w.heap.size w w3) := BW.out.trans (h3.mono BW.out.size)
      clear h3 HCNT
      by_cases h60 : 60 < T
      · have HX := HFULL.out _ HW3.out hQ0 h60
        clear hQ0
        go_wp2_with fail
        exact HX
      · go_wp2_with fail
        refine (HSEE.out _ HW3.out).mono ?_
        rintro e w4 ⟨rfl, hO, h4⟩
        have HW4 : Hid (Below w.heap.size w w4) := HW3.out.trans (h4.mono HW3.out.size)
        have HO : Hid (Own w4 w3.heap.size (flatP 0 ls)) := hO
        have HB : Hid (w.heap.size ≤ w3.heap.size) := HW3.out.size
        obtain ⟨hown, hsz⟩ := HLEN.out _ _ hO
        clear h4 HSEE hO
        generalize w3.heap.size = B at *
        by_cases hd : (ids ls).Nodup
        · have HX := HOK.out _ B HW4.out hQ0 h60 hd HB.out HO.out
          have hz := HALL.out hd
          clear hQ0 HALL HLESS hd
          generalize seenN ls = z at *
          have hzz : ¬ ((z : Int) < T) := by omega
          go_wp2_with (at_len; refine wpList_len_own _ rfl _ 109 rfl 3 114 Try.underlying109 plR B _ _ rfl hown ?_; rw [hsz])
          exact HX
        · have HX := HTWO.out _ HW4.out hQ0 h60 hd
          have hz := HLESS.out hd
          clear hQ0 HALL HLESS hd
          generalize seenN ls = z at *
          go_wp2_with (at_len; refine wpList_len_own _ rfl _ 109 rfl 3 114 Try.underlying109 plR B _ _ rfl hown ?_; rw [hsz])
          exact HX
end Go.Proofs.Ytnjpjieedgmffaa.sid
