/- Contracts over this seat's translation: side.places. Contracts over this seat's translation: side.places at every side; side.Check, side.Best, side.Find. Contracts over this seat's translation: side.Best, side.Find. -/
import Derived.Test.YtegbicmfgblphaaSidPure
namespace Go.Proofs.Ytegbicmfgblphaa.sid
open Go.RowKit Go.Proofs.Ytegbicmfgblphaa.spn Go.Proofs.Ytegbicmfgblphaa.que Go.Maps
open Go.Proofs.Ytegbicmfgblphaa.tickP (priceB sideB betOk betR)

/-- What places answers. -/
def PlacesPost (s : Int) (ls : List L) (w : World) (e : Ending) (w' : World) : Prop :=
  Below w.heap.size w w' ∧ ((¬ schk s ls = 0 ∧ e = .returned (.tuple #[.map none, errV (schk s ls)])) ∨ (schk s ls = 0 ∧ ∃ B, w.heap.size ≤ B ∧ e = .returned (.tuple #[.map (some B), .nilIface]) ∧ Own w' B (flatP 0 ls)))
theorem belowN {n : Nat} {w W : World} (h : Below n w W) (k : Nat) : Below n w (W.drewN k) := by
  induction k with
  | zero => exact h
  | succ k ih => rw [← World.drew_drewN]; exact ih.drew
/-- How many entries the map of places has. -/
def seenN (ls : List L) : Nat := Maps.size (mapD (flatP 0 ls))
theorem seen_all {ls : List L} (h : (ids ls).Nodup) : ((seenN ls : Nat) : Int) = cnt ls := by
  unfold seenN; rw [(mapD_size _).2 h, flatP_len]
theorem seen_less {ls : List L} (h : ¬ (ids ls).Nodup) : ((seenN ls : Nat) : Int) < cnt ls := by
  have h1 := mapD_le (flatP 0 ls)
  have h2 : ¬ Maps.size (mapD (flatP 0 ls)) = (flatP 0 ls).length := fun e => h ((mapD_size _).1 e)
  have h3 := flatP_len 0 ls
  unfold seenN
  omega
theorem side_span (s : Int) : [(s, 1, 2)].any spanB = !sideB s := by
  rw [Bool.eq_iff_iff]; simp [spanB, sideB]; omega

theorem places_side (s : Int) (q : Option Addr) (m c : Nat) (ls : List L) (w : World) (hk : sideB s = false) :
    Calls Try.prog 50 #[.int .i64 s, .slice q m c] w fun e w' => PlacesPost s ls w e w' := by
  have HS : Hid ([(s, 1, 2)].any spanB = true) := by have := side_span s; rw [hk] at this; exact this
  have HP : Hid (∀ W, Below w.heap.size w W → PlacesPost s ls w (.returned (.tuple #[.map none, .iface 59 (.int .i64 1)])) W) := fun W hW => ⟨hW, .inl ⟨by rw [schk_side hk]; omega, by rw [schk_side hk]; rfl⟩⟩
  generalize PlacesPost s ls w = POST at *
  clear hk
  go_enter Try.func50, Try.ntmps50
  go_wp2_with fail
  refine (side_any s w).mono ?_
  rintro e w1 ⟨rfl, h1⟩
  go_wp2_with fail
  refine (scheck1 true _ _ _ _ _ rfl HS.out).mono ?_
  rintro e w2 ⟨rfl, h2⟩
  simp only [show errV (rangeE true) = .iface 59 (.int .i64 1) from rfl]
  have HD : Hid (Below w.heap.size w w2) := h1.trans (h2.mono h1.size)
  clear h1 h2
  go_wp2_with fail
  exact HP.out _ HD.out

set_option maxRecDepth 100000 in
set_option maxHeartbeats 4000000 in
theorem places_some (s : Int) (b o c : Nat) (ls : List L) (w : World) (hb : b < w.heap.size) (hc : ls.length ≤ c) (hm : c ≤ 9223372036854775807) (hl : LL w b o ls) (hk : sideB s = true) :
    Calls Try.prog 50 #[.int .i64 s, .slice (some ⟨b, o, none⟩) ls.length c] w fun e w' => PlacesPost s ls w e w' := by
  have HS : Hid ([(s, 1, 2)].any spanB = false) := by have := side_span s; rw [hk] at this; exact this
  have HL : Hid (LL w b o ls) := hl
  have HLS : Hid (∀ W, Below w.heap.size w W → LS W (.slice (some ⟨b, o, none⟩) ls.length c) ls) := fun W hW => LS.below (.inr ⟨b, o, c, rfl, hc, hm, hb, hl⟩) hW
  generalize hQ : sgo s none ls = Q
  have HQ : Hid (sgo s none ls = Q) := hQ
  have HGO : Hid (∀ W, Below w.heap.size w W → ¬ Q = 0 → PlacesPost s ls w (.returned (.tuple #[.map none, errV Q])) W) := fun W hW h0 => by
    have e := schk_go (ls := ls) hk (by rw [hQ]; exact h0)
    rw [hQ] at e
    exact ⟨hW, .inl ⟨by rw [e]; exact h0, by rw [e]⟩⟩
  have HFULL : Hid (∀ W, Below w.heap.size w W → Q = 0 → 60 < cnt ls → PlacesPost s ls w (.returned (.tuple #[.map none, .iface 59 (.int .i64 4)])) W) := fun W hW h0 h60 => by
    have e := schk_full (ls := ls) hk (by rw [hQ]; exact h0) h60
    exact ⟨hW, .inl ⟨by rw [e]; omega, by rw [e]; rfl⟩⟩
  have HTWO : Hid (∀ W, Below w.heap.size w W → Q = 0 → ¬ 60 < cnt ls → ¬ (ids ls).Nodup → PlacesPost s ls w (.returned (.tuple #[.map none, .iface 59 (.int .i64 7)])) W) := fun W hW h0 h60 hd => by
    have e := schk_two (ls := ls) hk (by rw [hQ]; exact h0) h60 hd
    exact ⟨hW, .inl ⟨by rw [e]; omega, by rw [e]; rfl⟩⟩
  have HOK : Hid (∀ W B, Below w.heap.size w W → Q = 0 → ¬ 60 < cnt ls → (ids ls).Nodup → w.heap.size ≤ B → Own W B (flatP 0 ls) → PlacesPost s ls w (.returned (.tuple #[.map (some B), .nilIface])) W) := fun W B hW h0 h60 hd hB hO => by
    have e := schk_ok (ls := ls) hk (by rw [hQ]; exact h0) h60 hd
    exact ⟨hW, .inr ⟨e, B, hB, rfl, hO⟩⟩
  have HEND : Hid (Q = 0 → (∀ l ∈ ls, qchk l.rests = 0) ∧ ls.length ≤ 10000) := fun h0 => ⟨fun l hl => (lchk_zero (sgo_each (by rw [hQ]; exact h0) l hl)).2.2, sgo_len hk (by rw [hQ]; exact h0)⟩
  generalize PlacesPost s ls w = POST at *
  clear hl hQ hk
  generalize hn : ls.length = n at *
  have HN : Hid (ls.length = n) := hn
  clear hn
  go_enter Try.func50, Try.ntmps50
  go_wp2_with fail
  refine (side_any s w).mono ?_
  rintro e w1 ⟨rfl, h1⟩
  go_wp2_with fail
  refine (scheck1 false _ _ _ _ _ rfl HS.out).mono ?_
  rintro e w2 ⟨rfl, h2⟩
  simp only [show errV (rangeE false) = .nilIface from rfl]
  have HD : Hid (Below w.heap.size w w2) := h1.trans (h2.mono h1.size)
  clear h1 h2
  go_wp2_with fail
  go_loopg [7, 8, 9, 21] n (fun gg _ _ _ s21 wr => ∃ kk : Nat, kk ≤ n ∧ n - kk ≤ gg ∧ s21 = .int .i64 kk ∧ Aside (Below w.heap.size w wr) ∧ Aside (sgo s (prevAt ls kk) (ls.drop kk) = Q))
  case atStart => exact ⟨0, Nat.zero_le _, by omega, rfl, HD.out, HQ.out⟩
  case round =>
    obtain ⟨kk, hkk, hg, rfl, BW, A⟩ := hrel
    by_cases hlt : kk < n
    · have hltz : (kk : Int) < (n : Int) := by omega
      have hlz : kk < ls.length := by rw [HN.out]; exact hlt
      obtain ⟨r, hr⟩ : ∃ r, ls[kk]! = r := ⟨_, rfl⟩
      obtain ⟨p, zs⟩ := r
      obtain ⟨q, cc, a0, a1, hs⟩ := HL.out.at hlz hr
      have c0 := keeps BW.out a0
      have c1 := keeps BW.out a1
      have hA := A.out
      rw [sgo_at hlz, hr] at hA
      simp only [] at hA
      have HA : Hid ((if lchk ⟨p, zs⟩ = 0 then (if behindB s (prevAt ls kk) p = true then sgo s (prevAt ls (kk + 1)) (ls.drop (kk + 1)) else 7) else lchk ⟨p, zs⟩) = Q) := hA
      have hin1 : ¬ ((kk : Int) < 0) := by omega
      have hcl := fun W (h : SLe W (.slice q zs.length cc) zs) => checkLevel_any p (.slice q zs.length cc) zs W h
      have HC : Hid (∀ W, SLe W (.slice q zs.length cc) zs → Calls Try.prog 63 #[.agg #[.int .i64 p, .slice q zs.length cc]] W fun e w' => e = .returned (errV (lchk ⟨p, zs⟩)) ∧ Below W.heap.size W w') := hcl
      have SW : Hid (∀ W, Below w.heap.size w W → SLe W (.slice q zs.length cc) zs) := fun W hW => hs.below hW
      have hR := heap_alloc_new wr (.cells #[.int .i64 p, .slice q zs.length cc] 31)
      have HV : Hid (Below w.heap.size w (wr.alloc (.cells #[.int .i64 p, .slice q zs.length cc] 31))) := BW.out.alloc BW.out.size _
      clear hr hA hcl A a1
      generalize lchk ⟨p, zs⟩ = k at *
      generalize zs.length = m at *
      go_wp2_with fail
      generalize wr.alloc (.cells #[.int .i64 p, .slice q m cc] 31) = V at *
      have d0 : V.cell? ⟨wr.heap.size, 0, none⟩ = some (.int .i64 p) := by simp [World.cell?, hR]
      refine (HC.out V (SW.out V HV.out)).mono ?_
      rintro e w3 ⟨rfl, h3⟩
      have HW3 : Hid (Below w.heap.size w w3) := HV.out.trans (h3.mono HV.out.size)
      have e0 := keeps h3 d0
      clear h3 hR d0 HC SW
      by_cases hk : k = 0
      · subst hk
        rw [if_pos rfl] at HA
        simp only [errV_zero]
        by_cases hz : kk = 0
        · have hB : behindB s (prevAt ls kk) p = true := by rw [hz]; rfl
          rw [if_pos hB] at HA
          have hz' : ¬ (0 : Int) < (kk : Int) := by omega
          have hz0 : ¬ 0 < kk := by omega
          clear hz hB
          have hz1 : decide (0 < kk) = false := by simp; omega
          have hz2 : decide ((0 : Int) < (kk : Int)) = false := by simp; omega
          go_upto_region 10 with fail
          go_quiet (fail)
          go_wp2_with fail
          go_roundg (n - (kk + 1))
          case measure => omega
          case rel => exact ⟨kk + 1, by omega, by omega, by go_num, belowN HW3.out _, HA.out⟩
        · obtain ⟨j, hkj⟩ : ∃ j, kk = j + 1 := ⟨kk - 1, by omega⟩
          have hj : j < ls.length := by omega
          obtain ⟨r, hr⟩ : ∃ r, ls[j]! = r := ⟨_, rfl⟩
          obtain ⟨p', zs'⟩ := r
          obtain ⟨q', cc', f0, f1, hs'⟩ := HL.out.at hj hr
          have g0 := keeps HW3.out f0
          have hB : behindB s (prevAt ls kk) p = leadB s p' p := by rw [hkj, prevAt_succ, hr]; rfl
          rw [hB] at HA
          have HLD : Hid (∀ W, Below w3.heap.size w3 W → Calls Try.prog 64 #[.int .i64 s, .int .i64 p', .int .i64 p] W fun e w' => e = .returned (.bool (leadB s p' p)) ∧ Below w3.heap.size w3 w') := fun W hW => leads_V w3 s p' p W hW
          clear hr hB hs' f0 f1
          generalize leadB s p' p = ld at *
          have i1 : wrap64 ((kk : Int) - 1) = (j : Int) := by unfold wrap64; omega
          have i2 : IntKind.i64.wrap ((kk : Int) - 1) = (j : Int) := (IntWalk.i64_left _).trans i1
          have i3 : (0 : Int) < (kk : Int) := by omega
          have i4 : 0 < kk := by omega
          have i7 : (0 : Int) ≤ (j : Int) := by omega
          have i8 : j < n := by omega
          have i5 : ¬ (j : Int) < 0 := by omega
          have i6 : (j : Int) < (n : Int) := by omega
          clear hkj hz
          have SO : Hid (∀ W, Below w3.heap.size w3 W → (Below w3.heap.size w3 W ∧ W.cell? ⟨wr.heap.size, 0, none⟩ = some (.int .i64 p) ∧ W.cell? ⟨b, o + j * 2, none⟩ = some (.int .i64 p'))) := fun W hW => ⟨hW, keeps hW e0, keeps hW g0⟩
          go_upto_region 10 with fail
          go_region_held3 (fun W => Below w3.heap.size w3 W ∧ W.cell? ⟨wr.heap.size, 0, none⟩ = some (.int .i64 p) ∧ W.cell? ⟨b, o + j * 2, none⟩ = some (.int .i64 p'))
            ((refine SO.out _ ?_; (repeat' (first | with_reducible assumption | with_reducible refine bal ?_ _ | with_reducible refine Below.setCell ?_ ?_ _ | with_reducible refine Below.drew ?_ | with_reducible exact Below.refl _ _ | with_reducible exact Nat.le_refl _ | with_reducible exact Below.size (by with_reducible assumption) | with_reducible refine Nat.le_succ_of_le ?_))))
            (first | (go_at_call 64; refine (HLD.out _ ?_).mono ?_; (repeat' (first | with_reducible assumption | with_reducible refine bal ?_ _ | with_reducible refine Below.setCell ?_ ?_ _ | with_reducible refine Below.drew ?_ | with_reducible exact Below.refl _ _ | with_reducible exact Nat.le_refl _ | with_reducible exact Below.size (by with_reducible assumption) | with_reducible refine Nat.le_succ_of_le ?_)); rintro x W ⟨rfl, hbn⟩))
          have HW4 : Hid (Below w.heap.size w W) := HW3.out.trans (hbn.mono HW3.out.size)
          clear SO HLD hbn
          cases ld
          · have h7 : 7 = Q := by have := HA.out; simpa using this
            have HX := HGO.out _ HW4.out (by omega)
            rw [← h7, errV_of (by omega)] at HX
            clear h7 HA
            go_wp2_with fail
            exact HX
          · rw [if_pos rfl] at HA
            go_wp2_with fail
            go_roundg (n - (kk + 1))
            case measure => omega
            case rel => exact ⟨kk + 1, by omega, by omega, by go_num, HW4.out, HA.out⟩
      · rw [if_neg hk] at HA
        simp only [errV_of hk]
        have HX := HGO.out _ HW3.out (by rw [← HA.out]; exact hk)
        rw [← HA.out, errV_of hk] at HX
        go_wp2_with fail
        exact HX
    · have hltz : ¬ (kk : Int) < (n : Int) := by omega
      have hk : kk = n := by omega
      have hQ0 : Q = 0 := by
        have h := A.out
        rw [List.drop_eq_nil_of_le (by rw [HN.out]; omega)] at h
        exact h.symm
      obtain ⟨hq, h10⟩ := HEND.out hQ0
      have HCNT : Hid (∀ W, Below w.heap.size w W → Calls Try.prog 65 #[.slice (some ⟨b, o, none⟩) n c] W fun e w' => e = .returned (.int .i64 (cnt ls)) ∧ Below W.heap.size W w') := fun W hW => count_any _ ls W (HLS.out W hW) (fun l hl => ((qchk_zero _).1 (hq l hl)).1) (by rw [HN.out]; exact h10)
      have HSEE : Hid (∀ W, Below w.heap.size w W → Calls Try.prog 66 #[.slice (some ⟨b, o, none⟩) n c] W fun e w' => e = .returned (.map (some W.heap.size)) ∧ Own w' W.heap.size (flatP 0 ls) ∧ Below W.heap.size W w') := fun W hW => see_any _ ls W (HLS.out W hW) hq (by rw [HN.out]; exact h10)
      have HALL : Hid ((ids ls).Nodup → ((seenN ls : Nat) : Int) = cnt ls) := seen_all
      have HLESS : Hid (¬ (ids ls).Nodup → ((seenN ls : Nat) : Int) < cnt ls) := seen_less
      have HLEN : Hid (∀ W B, Own W B (flatP 0 ls) → W.ownsMap Try.prog 3 plR B (flatP 0 ls).length (mapD (flatP 0 ls)) ∧ Maps.size (mapD (flatP 0 ls)) = seenN ls) := fun W B h => ⟨h, rfl⟩
      clear hq h10 A hk
      generalize cnt ls = T at *
      go_wp2_with fail
      refine (HCNT.out _ BW.out).mono ?_
      rintro e w3 ⟨rfl, h3⟩
      have HW3 : Hid (Below w.heap.size w w3) := BW.out.trans (h3.mono BW.out.size)
      clear h3 HCNT
      by_cases h60 : 60 < T
      · have HX := HFULL.out _ HW3.out hQ0 h60
        clear hQ0
        go_wp2_with fail
        exact HX
      · go_wp2_with fail
        refine (HSEE.out _ HW3.out).mono ?_
        rintro e w4 ⟨rfl, hO, h4⟩
        have HW4 : Hid (Below w.heap.size w w4) := HW3.out.trans (h4.mono HW3.out.size)
        have HO : Hid (Own w4 w3.heap.size (flatP 0 ls)) := hO
        have HB : Hid (w.heap.size ≤ w3.heap.size) := HW3.out.size
        obtain ⟨hown, hsz⟩ := HLEN.out _ _ hO
        clear h4 HSEE hO
        generalize w3.heap.size = B at *
        by_cases hd : (ids ls).Nodup
        · have HX := HOK.out _ B HW4.out hQ0 h60 hd HB.out HO.out
          have hz := HALL.out hd
          clear hQ0 HALL HLESS hd
          generalize seenN ls = z at *
          have hzz : ¬ ((z : Int) < T) := by omega
          go_wp2_with (at_len; refine wpList_len_own _ rfl _ 91 rfl 3 101 Try.underlying91 plR B _ _ rfl hown ?_; rw [hsz])
          exact HX
        · have HX := HTWO.out _ HW4.out hQ0 h60 hd
          have hz := HLESS.out hd
          clear hQ0 HALL HLESS hd
          generalize seenN ls = z at *
          go_wp2_with (at_len; refine wpList_len_own _ rfl _ 91 rfl 3 101 Try.underlying91 plR B _ _ rfl hown ?_; rw [hsz])
          exact HX
end Go.Proofs.Ytegbicmfgblphaa.sid
namespace Go.Proofs.Ytegbicmfgblphaa.sid
open Go.RowKit Go.Proofs.Ytegbicmfgblphaa.spn Go.Proofs.Ytegbicmfgblphaa.que Go.Maps
open Go.Proofs.Ytegbicmfgblphaa.tickP (priceB sideB betOk betR)

theorem schk_none {s : Int} (h : sideB s = true) : schk s [] = 0 := schk_ok h rfl (by simp [cnt]) (by simp [ids, flatP])
set_option maxRecDepth 100000 in
set_option maxHeartbeats 1000000 in
theorem places_nil (s : Int) (w : World) (hk : sideB s = true) :
    Calls Try.prog 50 #[.int .i64 s, .slice none 0 0] w fun e w' => PlacesPost s [] w e w' := by
  have HS : Hid ([(s, 1, 2)].any spanB = false) := by have := side_span s; rw [hk] at this; exact this
  have HOK : Hid (∀ W B, Below w.heap.size w W → w.heap.size ≤ B → Own W B [] → PlacesPost s [] w (.returned (.tuple #[.map (some B), .nilIface])) W) := fun W B hW hB hO => ⟨hW, .inr ⟨schk_none hk, B, hB, rfl, hO⟩⟩
  generalize PlacesPost s [] w = POST at *
  clear hk
  go_enter Try.func50, Try.ntmps50
  go_wp2_with fail
  refine (side_any s w).mono ?_
  rintro e w1 ⟨rfl, h1⟩
  go_wp2_with fail
  refine (scheck1 false _ _ _ _ _ rfl HS.out).mono ?_
  rintro e w2 ⟨rfl, h2⟩
  simp only [show errV (rangeE false) = .nilIface from rfl]
  have HD : Hid (Below w.heap.size w w2) := h1.trans (h2.mono h1.size)
  clear h1 h2
  go_wp2_with fail
  go_loopg [7, 8, 9, 21] 0 (fun _ _ _ _ s21 wr => s21 = .int .i64 0 ∧ Aside (Below w.heap.size w wr))
  case atStart => exact ⟨rfl, HD.out⟩
  case round =>
    obtain ⟨rfl, BW⟩ := hrel
    go_wp2_with fail
    refine (count_nil _).mono ?_
    rintro e w3 ⟨rfl, h3⟩
    have HW3 : Hid (Below w.heap.size w w3) := BW.out.trans (h3.mono BW.out.size)
    clear h3
    go_wp2_with fail
    refine (see_nil _).mono ?_
    rintro e w4 ⟨rfl, hO, h4⟩
    have HW4 : Hid (Below w.heap.size w w4) := HW3.out.trans (h4.mono HW3.out.size)
    have HX := HOK.out _ _ HW4.out HW3.out.size hO
    have hown : w4.ownsMap Try.prog 3 plR w3.heap.size 0 (.map []) := hO
    have hsz : Maps.size (.map [] : DataW Unit) = 0 := rfl
    clear h4 hO
    generalize w3.heap.size = B at *
    go_wp2_with (at_len; refine wpList_len_own _ rfl _ 91 rfl 3 101 Try.underlying91 plR B _ _ rfl hown ?_; rw [hsz])
    exact HX
/-- places, at every side. -/
theorem places_any (s : Int) (v : Value) (ls : List L) (w : World) (h : LS w v ls) :
    Calls Try.prog 50 #[.int .i64 s, v] w fun e w' => PlacesPost s ls w e w' := by
  cases hk : sideB s
  · rcases h with ⟨rfl, rfl⟩ | ⟨b, o, c, rfl, h2, h3, h4, h5⟩
    · exact places_side s none 0 0 [] w hk
    · exact places_side s (some ⟨b, o, none⟩) _ c ls w hk
  · rcases h with ⟨rfl, rfl⟩ | ⟨b, o, c, rfl, h2, h3, h4, h5⟩
    · exact places_nil s w hk
    · exact places_some s b o c ls w h4 h2 h3 h5 hk

/-- Check, at every side. -/
theorem scheckS_any (s : Int) (v : Value) (ls : List L) (w : World) (h : LS w v ls) :
    Calls Try.prog 27 #[.int .i64 s, v] w fun e w' => e = .returned (errV (schk s ls)) ∧ Below w.heap.size w w' := by
  have hcon := places_any s v ls w h
  generalize hQ : schk s ls = Q
  have HP : Hid (∀ e w', PlacesPost s ls w e w' → Below w.heap.size w w' ∧ ∃ m, e = .returned (.tuple #[.map m, errV Q])) := fun e w' hp => by
    obtain ⟨h1, ⟨_, h3⟩ | ⟨h2, B, _, h3, _⟩⟩ := hp
    · rw [hQ] at h3; exact ⟨h1, _, h3⟩
    · rw [hQ] at h2; rw [h2]; exact ⟨h1, _, h3⟩
  clear h hQ
  generalize errV Q = E at *
  go_enter Try.func27, Try.ntmps27
  go_wp2_with fail
  refine hcon.mono ?_
  rintro e w1 hp
  obtain ⟨h1, m, rfl⟩ := HP.out _ _ hp
  clear hcon HP hp
  go_wp2_with fail
  go_ret
  exact ⟨rfl, h1⟩
end Go.Proofs.Ytegbicmfgblphaa.sid
namespace Go.Proofs.Ytegbicmfgblphaa.sid
open Go.RowKit Go.Proofs.Ytegbicmfgblphaa.spn Go.Proofs.Ytegbicmfgblphaa.que Go.Maps
open Go.Proofs.Ytegbicmfgblphaa.tickP (priceB sideB betOk betR)

/-- The best price, and what is wrong. -/
def bestE (s : Int) (ls : List L) : Int := if schk s ls = 0 then (if ls = [] then 5 else 0) else schk s ls
def bestP (s : Int) (ls : List L) : Int := if bestE s ls = 0 then ls[0]!.price else 0

theorem zeroPl (w : World) : (zeroValue 101).run Try.prog w = .ok (.agg #[.int .i64 0, .int .i64 0]) w := by kernel_rfl
/-- 'p, there := seen[id]', with its answer written out. -/
theorem lookup_place {P : Program} (w : World) {ops : Array Oper} {rest : List Oper} {o : Oper} {a : Act} {Q : Exit → Act → World → Prop}
    (hg : o.guard = none) (m x : Operand) (t : TypeId) (hop : o.op = Op.lookup t m x true)
    (k e : TypeId) (K : Keyed P k) (ht : P.underlying t = some (.map k e)) (hz : (zeroValue e).run P w = .ok (.agg #[.int .i64 0, .int .i64 0]) w) (b n : Nat) (D : DataW Unit)
    (hm : a.eval m = .map (some b)) (hown : w.ownsMap P k plR b n D) (key : Value) (kl : Lit) (hx : a.eval x = key) (hkey : keyOf P k key = some kl)
    (i j : Int) (th : Bool) (hat : D.atKey kl (plD 0 0) = plD i j) (hth : Maps.has D kl = th)
    (hK : wpList P ops Q rest (a.put o.dst (.tuple #[.agg #[.int .i64 i, .int .i64 j], .bool th])) w) :
    wpList P ops Q (o :: rest) a w :=
  wpList_lookup_own_ok w hg m x t hop k e K ht plR hz (plD 0 0) [] (plR_mk 0 0) b n D hm hown key kl hx hkey (fun v ps hv => by
    rw [hat] at hv
    rw [plR_inv hv, hth]
    exact hK)

/-- Where an id stands. -/
def findE (s : Int) (ls : List L) (id : Int) : Int := if schk s ls = 0 then (if (lastAt (flatP 0 ls) id).isSome = true then 0 else 5) else schk s ls
def findP (s : Int) (ls : List L) (id : Int) : Int × Int := if findE s ls id = 0 then ((lastAt (flatP 0 ls) id).getD (0, 0, 0)).2 else (0, 0)
theorem has_last (ps : List P3) (id : Int) : Maps.has (mapD ps) (.int .i64 id) = (lastAt ps id).isSome := by
  rw [mapD_has, Bool.eq_iff_iff, lastAt, List.find?_isSome]
  simp
theorem at_last (ps : List P3) (id : Int) : (mapD ps).atKey (.int .i64 id) (plD 0 0) = plD ((lastAt ps id).getD (0, 0, 0)).2.1 ((lastAt ps id).getD (0, 0, 0)).2.2 := by
  rw [mapD_at]; cases lastAt ps id <;> rfl

/-- What Find answers. -/
def findV (s : Int) (ls : List L) (id : Int) : Value := .tuple #[.int .i64 (findP s ls id).1, .int .i64 (findP s ls id).2, errV (findE s ls id)]
theorem find_bad {s : Int} {ls : List L} {id : Int} (h : ¬ schk s ls = 0) : findV s ls id = .tuple #[.int .i64 0, .int .i64 0, errV (schk s ls)] := by
  have e : findE s ls id = schk s ls := if_neg h
  unfold findV findP; rw [e, if_neg h]
theorem find_none {s : Int} {ls : List L} {id : Int} (h : schk s ls = 0) (h2 : lastAt (flatP 0 ls) id = none) : findV s ls id = .tuple #[.int .i64 0, .int .i64 0, .iface 59 (.int .i64 5)] := by
  have e : findE s ls id = 5 := by unfold findE; rw [if_pos h, h2]; rfl
  unfold findV findP; rw [e]; rfl
theorem find_one {s : Int} {ls : List L} {id : Int} (h : schk s ls = 0) {x : P3} (h2 : lastAt (flatP 0 ls) id = some x) : findV s ls id = .tuple #[.int .i64 x.2.1, .int .i64 x.2.2, .nilIface] := by
  have e : findE s ls id = 0 := by unfold findE; rw [if_pos h, h2]; rfl
  unfold findV findP; rw [e, h2]; rfl

set_option maxRecDepth 100000 in
set_option maxHeartbeats 1000000 in
theorem find_any (s : Int) (v : Value) (ls : List L) (id : Int) (w : World) (h : LS w v ls) (hid : (Lit.int .i64 id).wf = true) :
    Calls Try.prog 35 #[.int .i64 s, v, .int .i64 id] w fun e w' => e = .returned (findV s ls id) ∧ Below w.heap.size w w' := by
  have hcon := places_any s v ls w h
  have hkey : keyOf Try.prog 3 (.int .i64 id) = some (.int .i64 id) := keyOf_int_mk Try.underlying3 hid
  clear h hid
  by_cases h0 : schk s ls = 0
  · have HP : Hid (∀ e w', PlacesPost s ls w e w' → Below w.heap.size w w' ∧ ∃ B, e = .returned (.tuple #[.map (some B), .nilIface]) ∧ Own w' B (flatP 0 ls)) := fun e w' hp => by
      obtain ⟨h1, ⟨h2, _⟩ | ⟨_, B, _, h3, h4⟩⟩ := hp
      · exact absurd h0 h2
      · exact ⟨h1, B, h3, h4⟩
    have hh := has_last (flatP 0 ls) id
    have ha := at_last (flatP 0 ls) id
    cases hl : lastAt (flatP 0 ls) id with
    | none =>
      rw [find_none h0 hl]
      rw [hl] at hh ha
      simp only [Option.isSome_none, Option.getD_none] at hh ha
      clear h0 hl
      go_enter Try.func35, Try.ntmps35
      go_wp2_with fail
      refine hcon.mono ?_
      rintro e w1 hp
      obtain ⟨h1, B, rfl, hO⟩ := HP.out _ _ hp
      have hown : w1.ownsMap Try.prog 3 plR B (flatP 0 ls).length (mapD (flatP 0 ls)) := hO
      clear hcon HP hp hO
      go_wp2_with (at_lookup; refine lookup_place _ rfl _ _ 91 rfl 3 101 lawI Try.underlying91 (zeroPl _) B _ _ rfl hown _ _ rfl hkey _ _ _ ha hh ?_)
      go_ret3
      exact ⟨rfl, by first | exact h1 | exact h1.alloc h1.size _⟩
    | some x =>
      rw [find_one h0 hl]
      rw [hl] at hh ha
      simp only [Option.isSome_some, Option.getD_some] at hh ha
      obtain ⟨x1, x2, x3⟩ := x
      simp only [] at hh ha ⊢
      clear h0 hl
      go_enter Try.func35, Try.ntmps35
      go_wp2_with fail
      refine hcon.mono ?_
      rintro e w1 hp
      obtain ⟨h1, B, rfl, hO⟩ := HP.out _ _ hp
      have hown : w1.ownsMap Try.prog 3 plR B (flatP 0 ls).length (mapD (flatP 0 ls)) := hO
      clear hcon HP hp hO
      go_wp2_with (at_lookup; refine lookup_place _ rfl _ _ 91 rfl 3 101 lawI Try.underlying91 (zeroPl _) B _ _ rfl hown _ _ rfl hkey _ _ _ ha hh ?_)
      go_quiet (fail)
      go_wp2_with fail
      go_ret3
      exact ⟨rfl, by first | exact h1 | exact h1.alloc h1.size _ | exact belowN (h1.alloc h1.size _) _⟩
  · rw [find_bad h0, errV_of h0]
    have HP : Hid (∀ e w', PlacesPost s ls w e w' → Below w.heap.size w w' ∧ e = .returned (.tuple #[.map none, .iface 59 (.int .i64 (schk s ls))])) := fun e w' hp => by
      obtain ⟨h1, ⟨_, h3⟩ | ⟨h2, _⟩⟩ := hp
      · rw [errV_of h0] at h3; exact ⟨h1, h3⟩
      · exact absurd h2 h0
    generalize schk s ls = k at HP ⊢
    clear h0
    go_enter Try.func35, Try.ntmps35
    go_wp2_with fail
    refine hcon.mono ?_
    rintro e w1 hp
    obtain ⟨h1, rfl⟩ := HP.out _ _ hp
    clear hcon HP hp
    go_wp2_with fail
    go_ret3
    exact ⟨rfl, h1⟩
end Go.Proofs.Ytegbicmfgblphaa.sid
