/- Contracts over this seat's translation: the document's Levels. -/
import Derived.Test.YtmgodofnhjmbfaaGreatDoorSidRef5
namespace Go.Proofs.YtmgodofnhjmbfaaGreatDoor.sid
open Go.RowKit Go.Proofs.YtmgodofnhjmbfaaGreatDoor.spn Go.Proofs.YtmgodofnhjmbfaaGreatDoor.que
open Go.Proofs.YtmgodofnhjmbfaaGreatDoor.tickP (priceB sideB betOk betR)

theorem rqueue_e (v : Value) (zs : List R) (w : World) (h : SLe w v zs) :
    Calls Tryz.prog 42 #[v] w fun e w' => e = .returned (.int .i64 (qchk zs)) ∧ Below w.heap.size w w' := by
  rcases h with h | ⟨rfl, q, c, rfl⟩
  · exact rqueue_any v zs w h
  · exact rqueue_none q c w

set_option maxRecDepth 100000 in
theorem rtwice_none (p : Option Addr) (c : Nat) (w : World) :
    Calls Tryz.prog 44 #[.slice p 0 c] w fun e w' => e = .returned (.bool false) ∧ Below w.heap.size w w' := by
  go_enter Tryz.func44, Tryz.ntmps44
  go_wp2_with fail
  go_loopg [3] 0 (fun gg s3 wr => s3 = .int .i64 0 ∧ wr = w)
  case atStart => exact ⟨rfl, rfl⟩
  case round =>
    obtain ⟨rfl, rfl⟩ := hrel
    go_wp2_with fail
    go_ret
    exact ⟨rfl, Below.refl _ _⟩
theorem rtwice_any (v : Value) (zs : List R) (w : World) (h : SL w v zs) :
    Calls Tryz.prog 44 #[v] w fun e w' => e = .returned (.bool (decide (¬ (idsR zs).Nodup))) ∧ Below w.heap.size w w' := by
  rcases h with ⟨rfl, rfl⟩ | ⟨b, o, c, rfl, h2, h3, h4, h5⟩
  · exact rtwice_none none 0 w
  · exact rtwice_some b o c zs w h4 h2 h3 h5

set_option maxRecDepth 100000 in
set_option maxHeartbeats 2000000 in
theorem rlevels_some (s : Int) (b o c : Nat) (ls : List L) (w : World) (hb : b < w.heap.size) (hc : ls.length ≤ c) (hm : c ≤ 9223372036854775807) (hl : LL w b o ls) :
    Calls Tryz.prog 22 #[.int .i64 s, .slice (some ⟨b, o, none⟩) ls.length c] w fun e w' => e = .returned (.int .i64 (schk s ls)) ∧ Below w.heap.size w w' := by
  have HL : Hid (LL w b o ls) := hl
  clear hl
  have HB : Hid (b < w.heap.size) := hb
  have HC : Hid (ls.length ≤ c ∧ c ≤ 9223372036854775807) := ⟨hc, hm⟩
  have hn8 : ls.length ≤ 9223372036854775807 := by omega
  clear hb hc hm
  generalize hA : schk s ls = A
  have HA : Hid (schk s ls = A) := hA
  clear hA
  generalize hn : ls.length = n at *
  have HN : Hid (ls.length = n) := hn
  clear hn
  go_enter Tryz.func22, Tryz.ntmps22
  go_wp2_with fail
  refine (rside_any s w).mono ?_
  rintro e w ⟨rfl, rfl⟩
  by_cases hs2 : sideB s = false
  · have hA := HA.out
    rw [schk_side hs2] at hA
    subst hA
    rw [hs2]
    go_wp2_with fail
    go_ret
    exact ⟨rfl, Below.refl _ _⟩
  have hs : sideB s = true := by simpa using hs2
  have HS : Hid (sideB s = true) := hs
  rw [hs]
  clear hs hs2
  go_wp2_with fail
  go_loopg [6, 7, 8, 9] n (fun gg s4 _ _ _ wr => ∃ kk : Nat, kk ≤ n ∧ n - kk ≤ gg ∧ s4 = .int .i64 kk ∧ Aside (sgo s none ls = sgo s (prevAt ls kk) (ls.drop kk)) ∧ Aside (∀ j, j < kk → priceB ls[j]!.price = true) ∧ Aside (Below w.heap.size w wr))
  case atStart => exact ⟨0, Nat.zero_le _, by omega, rfl, rfl, fun j hj => absurd hj (Nat.not_lt_zero _), Below.refl _ _⟩
  case round =>
    obtain ⟨kk, hkk, hg, rfl, hQ, hP, BW⟩ := hrel
    by_cases hlt : kk < n
    · have hltz : (kk : Int) < (n : Int) := by omega
      have hlz : kk < ls.length := by rw [HN.out]; exact hlt
      obtain ⟨r, hr⟩ : ∃ r, ls[kk]! = r := ⟨_, rfl⟩
      obtain ⟨p, zs⟩ := r
      obtain ⟨q, cc, a0, a1, hs⟩ := HL.out.at hlz hr
      have c0 := keeps BW.out a0
      have c1 := keeps BW.out a1
      have hQ2 := hQ.out
      rw [sgo_at hlz, hr] at hQ2
      have HQ2 : Hid (sgo s none ls = (if lchk ⟨p, zs⟩ = 0 then (if behindB s (prevAt ls kk) p = true then sgo s (prevAt ls (kk + 1)) (ls.drop (kk + 1)) else 7) else lchk ⟨p, zs⟩)) := hQ2
      have HBAD : Hid (∀ x, ¬ x = 0 → sgo s none ls = x → x = A) := fun x hx e => by
        rw [← HA.out, schk_go HS.out (by rw [e]; exact hx), e]
      have HSW : Hid (SLe wr (.slice q zs.length cc) zs) := hs.below BW.out
      have HPR : Hid (ls[kk]!.price = p) := by show _ = _; rw [hr]
      have HPV : Hid (0 < kk → wr.cell? ⟨b, o + (kk - 1) * 2, none⟩ = some (.int .i64 ls[kk - 1]!.price)) := fun h0 => keeps BW.out (HL.out (kk - 1) (by omega)).1
      clear hQ hQ2 hr hs a0 a1
      have hin1 : ¬ ((kk : Int) < 0) := by omega
      have hw1 : wrap64 ((kk : Int) + 1) = ((kk + 1 : Nat) : Int) := by unfold wrap64; omega
      go_wp2_with fail
      refine (rprice_any p wr).mono ?_
      rintro e wr ⟨rfl, rfl⟩
      by_cases hp2 : priceB p = false
      · have h1 : (1 : Int) = A := HBAD.out 1 (by decide) (by
          have e : lchk ⟨p, zs⟩ = 1 := by unfold lchk; rw [if_neg (by simp [hp2])]
          rw [HQ2.out, e]; rfl)
        subst h1
        rw [hp2]
        go_wp2_with fail
        go_ret
        exact ⟨rfl, BW.out⟩
      have hp : priceB p = true := by simpa using hp2
      have HP : Hid (priceB p = true) := hp
      rw [hp]
      clear hp hp2
      by_cases hz : zs = []
      · have h1 : (3 : Int) = A := HBAD.out 3 (by decide) (by
          have e : lchk ⟨p, zs⟩ = 3 := by unfold lchk; rw [if_pos HP.out, if_pos hz]
          rw [HQ2.out, e]; rfl)
        subst h1
        have hzl : zs.length = 0 := by rw [hz]; rfl
        rw [hzl] at c1
        go_wp2_with fail
        go_ret
        exact ⟨rfl, BW.out⟩
      have HNZ : Hid (¬ zs = []) := hz
      have hzl : ¬ ((zs.length : Int) = 0) := by
        have : ¬ zs.length = 0 := fun h => hz (List.length_eq_zero_iff.1 h)
        omega
      have HLC : Hid (lchk ⟨p, zs⟩ = qchk zs) := by
        show lchk _ = _
        unfold lchk; rw [if_pos HP.out, if_neg HNZ.out]
      have HQU : Hid (Calls Tryz.prog 42 #[.slice q zs.length cc] wr fun e w' => e = .returned (.int .i64 (qchk zs)) ∧ Below wr.heap.size wr w') := rqueue_e _ zs wr HSW.out
      clear hz
      generalize zs.length = m at *
      go_wp2_with fail
      refine HQU.out.mono ?_
      rintro e w2 ⟨rfl, b2⟩
      have B2 : Aside (Below w.heap.size w w2) := BW.out.trans (b2.mono BW.out.size)
      by_cases hq : qchk zs = 0
      · rw [hq]
        have hQ3 := HQ2.out
        rw [HLC.out, if_pos hq] at hQ3
        have HQ3 : Hid (sgo s none ls = if behindB s (prevAt ls kk) p = true then sgo s (prevAt ls (kk + 1)) (ls.drop (kk + 1)) else 7) := hQ3
        have HP2 : Aside (∀ j, j < kk + 1 → priceB ls[j]!.price = true) := fun j hj => by
          by_cases e : j = kk
          · rw [e, HPR.out]; exact HP.out
          · exact hP.out j (by omega)
        have d0 := keeps b2 c0
        by_cases h0 : kk = 0
        · have HQ4 : Aside (sgo s none ls = sgo s (prevAt ls (kk + 1)) (ls.drop (kk + 1))) := by
            have h := HQ3.out
            rw [if_pos (by rw [h0]; rfl)] at h
            exact h
          have hk0 : (kk : Int) = 0 := by omega
          clear c0 c1 b2 hQ3 hq HQ3 HQ2
          go_wp2_with fail
          go_quiet (fail)
          go_wp2_with fail
          go_roundg (n - (kk + 1))
          case measure => omega
          case rel => exact ⟨kk + 1, by omega, by omega, by go_num, HQ4, HP2, belowN B2.out _⟩
        · obtain ⟨k1, hk1⟩ : ∃ k1, kk = k1 + 1 := ⟨kk - 1, by omega⟩
          have d1 : w2.cell? ⟨b, o + k1 * 2, none⟩ = some (.int .i64 ls[k1]!.price) := by
            have h := keeps b2 (HPV.out (by omega))
            rw [hk1, Nat.add_sub_cancel] at h
            exact h
          have HBE : Hid (behindB s (prevAt ls kk) p = aheadB (wrap64 (3 - s)) ls[k1]!.price p) := by
            show behindB _ _ _ = _
            rw [ahead_lead HS.out (hP.out k1 (by omega)) HP.out, hk1]
            rfl
          have hk0 : ((kk : Int) == 0) = false := by
            rw [beq_eq_false_iff_ne]; omega
          have hw0 : wrap64 ((kk : Int) - 1) = (k1 : Int) := by unfold wrap64; omega
          have hw0i : IntKind.i64.wrap ((kk : Int) - 1) = (k1 : Int) := by rw [IntKind.wrap_i64]; unfold wrap64 at hw0; omega
          have hin0 : ¬ ((k1 : Int) < 0) := by omega
          have hlt0 : (k1 : Int) < (n : Int) := by omega
          have HK : Hid (kk = k1 + 1) := hk1
          clear c0 c1 b2 hQ3 hq HQ2 hk1 h0
          generalize ls[k1]!.price = pp at *
          have HAH : Hid (∀ W, Calls Tryz.prog 43 #[.int .i64 (wrap64 (3 - s)), .int .i64 pp, .int .i64 p] W fun e w' => e = .returned (.bool (aheadB (wrap64 (3 - s)) pp p)) ∧ w' = W) := fun W => ref_ahead _ _ _ W
          rw [HBE.out] at HQ3
          clear HBE
          generalize aheadB (wrap64 (3 - s)) pp p = t at *
          cases t
          · have h1 : (7 : Int) = A := HBAD.out 7 (by decide) HQ3.out
            subst h1
            go_wp2_with fail
            go_quiet ((go_at_call 43; exact Calls.quiet_of_same (HAH.out _)))
            go_wp2_with fail
            go_ret
            exact ⟨rfl, belowN B2.out _⟩
          · have HQ4 : Aside (sgo s none ls = sgo s (prevAt ls (kk + 1)) (ls.drop (kk + 1))) := HQ3.out
            go_wp2_with fail
            go_quiet ((go_at_call 43; exact Calls.quiet_of_same (HAH.out _)))
            go_wp2_with fail
            go_roundg (n - (kk + 1))
            case measure => omega
            case rel => exact ⟨kk + 1, by omega, by omega, by go_num, HQ4, HP2, belowN B2.out _⟩
      · have h1 : qchk zs = A := HBAD.out _ hq (by
          have h := HQ2.out
          rw [HLC.out, if_neg hq] at h
          exact h)
        clear c0 c1 b2
        generalize qchk zs = x at *
        subst h1
        go_wp2_with fail
        go_ret
        exact ⟨rfl, B2.out⟩
    · have hltz : ¬ (kk : Int) < (n : Int) := by omega
      have HG0 : Hid (sgo s none ls = 0) := by
        have h := hQ.out
        rw [List.drop_eq_nil_of_le (by rw [HN.out]; omega)] at h
        rw [h]
        cases prevAt ls kk <;> rfl
      have HG60 : Hid (∀ l ∈ ls, l.rests.length ≤ 60) := fun l hl => ((qchk_zero _).1 (lchk_zero (sgo_each HG0.out l hl)).2.2).1
      have HCT : Hid (Calls Tryz.prog 7 #[.slice (some ⟨b, o, none⟩) n c] wr fun e w' => e = .returned (.int .i64 (cnt ls)) ∧ ∃ k, w' = wr.drewN k) := by
        have h := rcount_some b o c ls wr (HL.out.below HB.out BW.out) HG60.out (sgo_len HS.out HG0.out)
        rw [HN.out] at h
        exact h
      clear hQ hP
      go_wp2_with fail
      refine HCT.out.mono ?_
      rintro e w2 ⟨rfl, dd, rfl⟩
      have B2 : Hid (Below w.heap.size w (wr.drewN dd)) := belowN BW.out dd
      generalize wr.drewN dd = w2 at *
      by_cases h60 : 60 < cnt ls
      · have h1 : (4 : Int) = A := by rw [← HA.out, schk_full HS.out HG0.out h60]
        subst h1
        generalize cnt ls = x at *
        go_wp2_with fail
        go_ret
        exact ⟨rfl, B2.out⟩
      · have HFL : Hid (Calls Tryz.prog 45 #[.slice (some ⟨b, o, none⟩) n c] w2 fun e w' => ∃ v, e = .returned v ∧ OwnQ w' w2.heap.size v (allR ls) ∧ Below w2.heap.size w2 w') := by
          have h := rflat_some b o c ls w2 (by rw [HN.out]; exact hn8) (HL.out.below HB.out B2.out) (by omega)
          rw [HN.out] at h
          exact h
        have H60 : Hid (¬ 60 < cnt ls) := h60
        generalize hcn : cnt ls = x at *
        go_wp2_with fail
        refine HFL.out.mono ?_
        rintro e w3 ⟨v, rfl, o3, b3⟩
        have B3 : Hid (Below w.heap.size w w3) := B2.out.trans (b3.mono B2.out.size)
        have HTW : Hid (Calls Tryz.prog 44 #[v] w3 fun e w' => e = .returned (.bool (decide (¬ (ids ls).Nodup))) ∧ Below w3.heap.size w3 w') := by
          have h := rtwice_any v (allR ls) w3 (OwnQ.sl o3)
          rw [allR_ids] at h
          exact h
        clear o3 b3
        go_wp2_with fail
        refine HTW.out.mono ?_
        rintro e w4 ⟨rfl, b4⟩
        have B4 : Hid (Below w.heap.size w w4) := B3.out.trans (b4.mono B3.out.size)
        clear b4
        by_cases hd : (ids ls).Nodup
        · have h1 : (0 : Int) = A := by rw [← HA.out, schk_ok HS.out HG0.out (by have := H60.out; rw [hcn]; omega) hd]
          subst h1
          rw [decide_eq_false (fun h => h hd)]
          go_wp2_with fail
          go_ret
          exact ⟨rfl, B4.out⟩
        · have h1 : (7 : Int) = A := by rw [← HA.out, schk_two HS.out HG0.out (by have := H60.out; rw [hcn]; omega) hd]
          subst h1
          rw [decide_eq_true hd]
          go_wp2_with fail
          go_ret
          exact ⟨rfl, B4.out⟩
end Go.Proofs.YtmgodofnhjmbfaaGreatDoor.sid
