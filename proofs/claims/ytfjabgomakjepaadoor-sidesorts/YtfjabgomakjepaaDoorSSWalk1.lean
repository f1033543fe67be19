/- The law SideSorts, of Buy. -/
import Derived.Test.YtfjabgomakjepaaDoorSSWalk0
namespace Go.Proofs.YtfjabgomakjepaaDoor.sideSorts
open Go.RowKit Go.Proofs.YtfjabgomakjepaaDoor.spn Go.Proofs.YtfjabgomakjepaaDoor.que Go.Proofs.YtfjabgomakjepaaDoor.sid
open Go.Proofs.YtfjabgomakjepaaDoor.tickP (priceB sideB)


set_option maxRecDepth 100000 in
set_option maxHeartbeats 4000000 in
theorem walk_1 (b o c : Nat) (zs : List Int) (B w : World) (hb : b < w.heap.size) (hcell : ∀ j, j < zs.length → w.cell? ⟨b, o + j, none⟩ = some (.int .i64 zs[j]!)) (h : told.Inv B w) :
    Calls Tryd.prog 4 #[.int .i64 1, .slice (some ⟨b, o, none⟩) zs.length c] w fun e w' => e = .returned (.bool true) ∧ told.Inv B w' := by
  have HI : Hid (∀ W, Below w.heap.size w W → told.Inv B W) := fun W hW => h.on hW
  have HCELL : Hid (∀ W, Below w.heap.size w W → ∀ j, j < zs.length → W.cell? ⟨b, o + j, none⟩ = some (.int .i64 zs[j]!)) := fun W hW j hj => keeps hW (hcell j hj)
  have HSZ : Hid (∀ W, Below w.heap.size w W → b < W.heap.size) := fun W hW => Nat.lt_of_lt_of_le hb hW.size
  generalize hn : zs.length = n at *
  obtain ⟨m, hm⟩ : ∃ m, m = min n 50 := ⟨_, rfl⟩
  have hmn : m ≤ n := by omega
  have hm5 : m ≤ 50 := by omega
  have HM : Hid (∀ k, ¬ k < m → k ≤ m → ¬ k < n ∨ ¬ k < 50) := fun k _ _ => by omega
  clear hm
  have HZ : Hid (SInv 1 zs 0 []) := sinv_zero (by decide) zs
  clear h hcell hn
  go_enter Tryd.func4, Tryd.ntmps4
  go_wp2_with fail
  go_loopg [6, 7, 8, 9, 10, 11] m (fun gg s6 s7 _ _ _ _ wr => ∃ (kk : Nat) (xs : List L), kk ≤ m ∧ m - kk ≤ gg ∧ s7 = .int .i64 kk ∧ Aside (SInv 1 zs kk xs) ∧ Aside (LS wr s6 xs) ∧ Aside (Below w.heap.size w wr))
  case atStart => exact ⟨0, [], Nat.zero_le _, by omega, rfl, HZ.out, ls_nil _, Below.refl _ _⟩
  case round =>
    obtain ⟨kk, xs, hkk, hg, rfl, AI, AL, BW⟩ := hrel
    have hbw := HSZ.out wr BW.out
    by_cases hlt : kk < m
    · have hk50 : kk < 50 := by omega
      have hkn : kk < n := by omega
      have k1 : (kk : Int) < (n : Int) := by omega
      have k2 : (kk : Int) < 50 := by omega
      have k3 : ¬ ((kk : Int) < 0) := by omega
      have c0 := HCELL.out wr BW.out kk hkn
      have E1 : Hid (wrap64 ((kk : Int) + 1) = (kk : Int) + 1) := wrapOne kk (by omega)
      have HO2 : Hid (m - (kk + 1) < m - kk) := by show _ < _; omega
      have hadd := add_any 1 u6 xs zs[kk]! ((kk : Int) + 1) 1 1 0 0 wr AL.out
      cases hp : priceB zs[kk]!
      · have HA : Hid (∀ x w', AddPost 1 xs zs[kk]! ⟨(kk : Int) + 1, 1, 1, 0, 0⟩ wr x w' → Below wr.heap.size wr w' ∧ ∃ v', x = .returned (.tuple #[v', .iface 65 (.int .i64 1)])) := fun x w' hp2 => by
          obtain ⟨h1, v', h2, -⟩ := hp2
          rw [add_skip _ AI.out hp, errV_of (by omega)] at h2
          exact ⟨h1, v', h2⟩
        have HINV : Hid (SInv 1 zs (kk + 1) xs) := sinv_skip AI.out hp
        have HPP : Hid (¬ (1 ≤ zs[kk]! ∧ zs[kk]! ≤ 10000)) := fun e => by
          have : priceB zs[kk]! = true := by unfold priceB; simp only [e.1, e.2, decide_true, Bool.and_self]
          rw [this] at hp; cases hp
        have HC2 : Hid (∀ W, Below w.heap.size w W → W.cell? ⟨b, o + kk, none⟩ = some (.int .i64 zs[kk]!)) := fun W hW => HCELL.out W hW kk hkn
        clear hp
        generalize zs[kk]! = p at *
        have e1 := E1.out
        go_wp2_with fail
        refine hadd.mono ?_
        rintro x w1 hp2
        obtain ⟨h1, v', rfl⟩ := HA.out _ _ hp2
        have HW1 : Hid (Below w.heap.size w w1) := BW.out.trans (h1.mono BW.out.size)
        have HL1 : Hid (LS w1 u6 xs) := AL.out.below h1
        have d0 := HC2.out w1 HW1.out
        have hbw1 := HSZ.out w1 HW1.out
        clear hadd HA hp2 h1 c0
        by_cases hq1 : (1 : Int) ≤ p
        · have hq2 : ¬ p ≤ 10000 := fun e => HPP.out ⟨hq1, e⟩
          go_wp2_with fail
          go_roundg (m - (kk + 1))
          case measure => exact Nat.lt_of_lt_of_le HO2.out hg
          case rel => exact ⟨kk + 1, xs, hlt, Nat.le_refl _, by go_num, HINV.out, HL1.out, HW1.out⟩
        · go_wp2_with fail
          go_roundg (m - (kk + 1))
          case measure => exact Nat.lt_of_lt_of_le HO2.out hg
          case rel => exact ⟨kk + 1, xs, hlt, Nat.le_refl _, by go_num, HINV.out, HL1.out, HW1.out⟩
      · obtain ⟨hE, hI2⟩ := sinv_add AI.out hk50 hp
        have HA : Hid (∀ x w', AddPost 1 xs zs[kk]! ⟨(kk : Int) + 1, 1, 1, 0, 0⟩ wr x w' → Below wr.heap.size wr w' ∧ ∃ v', x = .returned (.tuple #[v', .nilIface]) ∧ LS w' v' (putL 1 zs[kk]! ⟨(kk : Int) + 1, 1, 1, 0, 0⟩ xs)) := fun x w' hp2 => by
          obtain ⟨h1, v', h2, h3⟩ := hp2
          rw [hE, errV_zero] at h2
          unfold addL at h3
          rw [if_pos hE] at h3
          exact ⟨h1, v', h2, h3⟩
        have hpos := put_pos 1 zs[kk]! ⟨(kk : Int) + 1, 1, 1, 0, 0⟩ xs
        generalize putL 1 zs[kk]! ⟨(kk : Int) + 1, 1, 1, 0, 0⟩ xs = X at *
        obtain ⟨f1, f2⟩ := best_fine hI2.1 hpos
        have HBE := fun W v' (hW : LS W v' X) => best_any 1 v' X W hW
        rw [f1, f2, errV_zero] at HBE
        have HBEST : Hid (∀ j, j < kk + 1 → priceB zs[j]! = true → zs[j]! ≤ X[0]!.price) := fun j hj hp => (sinv_best hI2 hpos hj hp).1 rfl
        have HINV : Hid (SInv 1 zs (kk + 1) X) := hI2
        generalize X[0]!.price = bb at *
        clear hI2 hE hpos f1 f2 hp
        generalize zs[kk]! = p at hadd HA c0
        have e1 := E1.out
        go_wp2_with fail
        refine hadd.mono ?_
        rintro x w1 hp2
        obtain ⟨h1, v', rfl, hL⟩ := HA.out _ _ hp2
        have HW1 : Hid (Below w.heap.size w w1) := BW.out.trans (h1.mono BW.out.size)
        have HL1 : Hid (LS w1 v' X) := hL
        clear hadd HA hp2 h1 c0 hL
        go_wp2_with fail
        refine (HBE w1 _ HL1.out).mono ?_
        rintro x w3 ⟨rfl, h3⟩
        have HW3 : Hid (Below w.heap.size w w3) := HW1.out.trans (h3.mono HW1.out.size)
        have HLX : Hid (LS w3 v' X) := HL1.out.below h3
        have hbw3 := HSZ.out w3 HW3.out
        clear HBE h3 e1
        go_wp2_with fail
        go_loopg [11] (kk + 1) (fun g2 s11 wi => ∃ jj : Nat, jj ≤ kk + 1 ∧ kk + 1 - jj ≤ g2 ∧ s11 = .int .i64 jj ∧ wi = w3)
        case atStart => exact ⟨0, Nat.zero_le _, by omega, rfl, rfl⟩
        case round =>
          obtain ⟨jj, hjj, hg2, rfl, hwi⟩ := hrel
          subst hwi
          by_cases hj : jj < kk + 1
          · have hjz : (jj : Int) ≤ (kk : Int) := by omega
            have hj0 : ¬ ((jj : Int) < 0) := by omega
            have hj1 : (jj : Int) < (n : Int) := by omega
            have q0 := HCELL.out _ HW3.out jj (by omega)
            have HQ : Hid (priceB zs[jj]! = true → zs[jj]! ≤ bb) := fun hp => HBEST.out jj hj hp
            have HR1 : Hid (jj + 1 ≤ kk + 1) := hj
            have HG2 : Hid (kk + 1 - jj ≤ gk) := hg2
            have HR2 : Hid (kk + 1 - (jj + 1) < kk + 1 - jj) := by show _ < _; omega
            have E2 : Hid (wrap64 ((jj : Int) + 1) = (jj : Int) + 1) := wrapOne jj (by omega)
            generalize zs[jj]! = q at *
            by_cases hq1 : (1 : Int) ≤ q
            · by_cases hq2 : q ≤ 10000
              · have hq3 : ¬ bb < q := by have := HQ.out (by unfold priceB; simp only [hq1, hq2, decide_true, Bool.and_self]); omega
                have e2 := E2.out
                clear HM HI HZ AI AL HW1 HL1 BW hk50 hkn k1 k2 k3 hbw hmn hm5 hlt hkk E1 HQ hj hjj hg2 E2
                go_wp2_with fail
                go_roundg (kk + 1 - (jj + 1))
                case measure => exact Nat.lt_of_lt_of_le HR2.out HG2.out
                case rel => exact ⟨jj + 1, HR1.out, Nat.le_refl _, by go_num, rfl⟩
              · have e2 := E2.out
                clear HM HI HZ AI AL HW1 HL1 BW hk50 hkn k1 k2 k3 hbw hmn hm5 hlt hkk E1 HQ hj hjj hg2 E2
                go_wp2_with fail
                go_roundg (kk + 1 - (jj + 1))
                case measure => exact Nat.lt_of_lt_of_le HR2.out HG2.out
                case rel => exact ⟨jj + 1, HR1.out, Nat.le_refl _, by go_num, rfl⟩
            · have e2 := E2.out
              clear HM HI HZ AI AL HW1 HL1 BW hk50 hkn k1 k2 k3 hbw hmn hm5 hlt hkk E1 HQ hj hjj hg2 E2
              go_wp2_with fail
              go_roundg (kk + 1 - (jj + 1))
              case measure => exact Nat.lt_of_lt_of_le HR2.out HG2.out
              case rel => exact ⟨jj + 1, HR1.out, Nat.le_refl _, by go_num, rfl⟩
          · have hjz : ¬ (jj : Int) ≤ (kk : Int) := by omega
            have e1 := E1.out
            clear E1 HM HI HCELL HBEST hj hjj hg2 HZ AI AL HW1 HL1 BW hk50 hkn k1 k2 k3 hbw hmn hm5 hbw3
            go_wp2_with fail
            go_roundg (m - (kk + 1))
            case measure => exact Nat.lt_of_lt_of_le HO2.out hg
            case rel => exact ⟨kk + 1, X, hlt, Nat.le_refl _, by go_num, HINV.out, HLX.out, HW3.out⟩
    · have HKM : Hid (¬ kk < n ∨ ¬ kk < 50) := HM.out kk hlt hkk
      have hcon := scheckS_any 1 u6 xs wr AL.out
      rw [AI.out.1, errV_zero] at hcon
      have HIW := HI.out wr BW.out
      have HIWW : Hid (told.Inv B wr) := HIW
      clear HIW
      by_cases hkn : kk < n
      · have k1 : (kk : Int) < (n : Int) := by omega
        have k2 : ¬ (kk : Int) < 50 := by have := HKM.out; omega
        go_wp2_with fail
        refine hcon.mono ?_
        rintro x w1 ⟨rfl, h1⟩
        clear hcon
        go_wp2_with fail
        go_ret
        exact ⟨rfl, HIWW.out.on h1⟩
      · have k1 : ¬ (kk : Int) < (n : Int) := by omega
        go_wp2_with fail
        refine hcon.mono ?_
        rintro x w1 ⟨rfl, h1⟩
        clear hcon
        go_wp2_with fail
        go_ret
        exact ⟨rfl, HIWW.out.on h1⟩
set_option maxRecDepth 100000 in
theorem walk_1n (B w : World) (h : told.Inv B w) :
    Calls Tryd.prog 4 #[.int .i64 1, .slice none 0 0] w fun e w' => e = .returned (.bool true) ∧ told.Inv B w' := by
  have hcon := scheckS_any 1 _ [] w (ls_nil w)
  rw [schk_none (by decide), errV_zero] at hcon
  have HI : Hid (told.Inv B w) := h
  clear h
  go_enter Tryd.func4, Tryd.ntmps4
  go_wp2_with fail
  go_loopg [6, 7, 8, 9, 10, 11] 0 (fun _ s6 s7 _ _ _ _ wr => s7 = .int .i64 0 ∧ s6 = .slice none 0 0 ∧ wr = w)
  case atStart => exact ⟨rfl, rfl, rfl⟩
  case round =>
    obtain ⟨rfl, rfl, rfl⟩ := hrel
    go_wp2_with fail
    refine hcon.mono ?_
    rintro x w1 ⟨rfl, h1⟩
    clear hcon
    go_wp2_with fail
    go_ret
    exact ⟨rfl, HI.out.on h1⟩
end Go.Proofs.YtfjabgomakjepaaDoor.sideSorts
