/- Contracts over this seat's translation: the document's nextOf. -/
import Derived.Test.YtabcfmpmkdoieaaDoorCalRef4
namespace Go.Proofs.YtabcfmpmkdoieaaDoor.cal
open Go.RowKit Go.Proofs.YtabcfmpmkdoieaaDoor.ord
open Go.Proofs.YtabcfmpmkdoieaaDoor.wak (Lies SL oL)
open Go.Proofs.YtabcfmpmkdoieaaDoor.spn (keeps bcell)

theorem mB_one {o : O} (h : o.kind = 1) (x : Int) : mB o x = at_ o x := by
  unfold ord.mB at_
  rw [show decide (o.kind = 2) = false from by rw [h]; rfl, Bool.false_or]
theorem belN {B : Nat} {a w : World} (h : Below B a w) (n : Nat) : Below B a (w.drewN n) := ⟨h.os, h.tape, h.output, h.size, h.block⟩

set_option maxHeartbeats 4000000 in
set_option maxRecDepth 100000 in
theorem rnext_any (q : Option Addr) (n c : Nat) (os : List O) (side p : Int) (w : World) (hn : n = os.length) (h : SL w (.slice q n c) os) (hok : Okk os) (h60 : n ≤ 60) (hsd : side = 1 ∨ side = 2) :
    Calls Tryd.prog 24 #[.slice q n c, .int .i64 side, .int .i64 p] w fun e w' => (∃ b : Int, e = .returned (.int .i64 b) ∧ NX os side p n b) ∧ Below w.heap.size w w' := by
  have HS := hidC h
  have HOK := hidC hok
  have HN := hidC hn
  have H60 := hidC h60
  have HSD := hidC hsd
  have ws3 : wrap64 (3 - side) = 3 - side := wrapW _ _ rfl (by omega) (by omega)
  clear h hok hn h60 hsd
  go_enter Tryd.func24, Tryd.ntmps24
  go_wp2_with fail
  go_loopg [7, 8, 9] n (fun gg s7 s8 _ wr => ∃ k : Nat, k ≤ n ∧ n - k ≤ gg ∧ s8 = .int .i64 k ∧ ∃ b : Int, s7 = .int .i64 b ∧ Aside (NX os side p k b ∧ Below w.heap.size w wr))
  case atStart => exact ⟨0, Nat.zero_le _, by omega, rfl, -1, rfl, NX.start _ _ _, Below.refl _ _⟩
  case round =>
    obtain ⟨k, hk, hg, rfl, b, rfl, HA⟩ := hrel
    by_cases hlt : k < n
    · have hltz : (k : Int) < (n : Int) := by omega
      have hlz : k < os.length := by have := HN.out; omega
      have HB := hidC HA.out.2
      have HX := hidC HA.out.1
      obtain ⟨G, o, rfl, hG, -, hL⟩ := sl_here (HS.out.below HA.out.2) (by omega)
      have hx := hL k hlz
      have hO := HOK.out k hlz
      have HM : Hid (k < n ∧ n - k ≤ gk ∧ k ≤ 5000) := ⟨hlt, hg, by have := H60.out; omega⟩
      have HLV : Hid (∀ V, Below wr.heap.size wr V → ∀ j, j < os.length → ∀ i v, (oL os[j]!)[i]? = some v → V.cell? ⟨G, o + j * 8 + i, none⟩ = some v) := fun V hV j hj i v hv => (hL.below hG hV) j hj i v hv
      have HCD : Hid (∀ (S Q P : Int) (M : Bool), (os[k]!).side = S → (os[k]!).qty = Q → (os[k]!).price = P → at_ os[k]! p = M → (Cand os side p k ↔ S = side ∧ 0 < Q ∧ M = true) ∧ (∀ i : Nat, aheadO (3 - side) P (os[i]!).price = decide (keyO side os k < keyO side os i))) := by
        rintro S Q P M rfl rfl rfl rfl
        exact ⟨Iff.rfl, fun i => key_ahead side os k i HSD.out⟩
      have HME : Hid (∀ V, Calls Tryd.prog 17 #[.agg (oL os[k]!).toArray, .int .i64 p] V fun e w' => e = .returned (.bool (at_ os[k]! p)) ∧ Below V.heap.size V w') := fun V => by
        have h := ref_may (os[k]!).id (os[k]!).who (os[k]!).side (os[k]!).kind (os[k]!).price (os[k]!).qty (os[k]!).shw (os[k]!).stop p V hO.2.1
        have e := mB_one hO.1 p
        change mB ⟨(os[k]!).id, (os[k]!).who, (os[k]!).side, (os[k]!).kind, (os[k]!).price, (os[k]!).qty, (os[k]!).shw, (os[k]!).stop⟩ p = _ at e
        rw [e] at h
        exact h
      have hlz' := hlz
      rcases hxx : os[k]! with ⟨a1, a2, a3, a4, a5, a6, a7, a8⟩
      rw [hxx] at hx HCD HME hO
      have HQ0 : Hid (0 ≤ a6) := hO.2.2
      have HY : Hid (∀ V, Below wr.heap.size wr V → V.cell? ⟨G, o + k * 8 + 2, none⟩ = some (.int .i64 a3) ∧ V.cell? ⟨G, o + k * 8 + 4, none⟩ = some (.int .i64 a5) ∧ V.cell? ⟨G, o + k * 8 + 5, none⟩ = some (.int .i64 a6)) := fun V hV => ⟨HLV.out V hV k hlz 2 _ (by rw [hxx]; rfl), HLV.out V hV k hlz 4 _ (by rw [hxx]; rfl), HLV.out V hV k hlz 5 _ (by rw [hxx]; rfl)⟩
      have HME2 : Hid (∀ V, Calls Tryd.prog 17 #[.agg #[.int .i64 a1, .int .i64 a2, .int .i64 a3, .int .i64 a4, .int .i64 a5, .int .i64 a6, .int .i64 a7, .int .i64 a8], .int .i64 p] V fun e w' => e = .returned (.bool (at_ ⟨a1, a2, a3, a4, a5, a6, a7, a8⟩ p)) ∧ Below V.heap.size V w') := HME.out
      have HCE := hidC (HCD.out a3 a6 a5 _ rfl rfl rfl rfl)
      generalize at_ ⟨a1, a2, a3, a4, a5, a6, a7, a8⟩ p = M at HME2 HCE
      have x0 := hx 0 _ rfl
      have x1 := hx 1 _ rfl
      have x2 := hx 2 _ rfl
      have x3 := hx 3 _ rfl
      have x4 := hx 4 _ rfl
      have x5 := hx 5 _ rfl
      have x6 := hx 6 _ rfl
      have x7 := hx 7 _ rfl
      simp only [Nat.add_zero] at x0
      have ei := succW k HM.out.2.2
      have HLZ := hidC hlz
      clear hx hxx HA hk hg hlz hlz' hlt hL hG HCD HME hO
      go_wp2_with fail
      refine (HME2.out _).mono ?_
      rintro e W2 ⟨rfl, hb2⟩
      obtain ⟨y2, y4, y5⟩ := HY.out W2 hb2
      have HB2 := hidC (HB.out.trans (hb2.mono HB.out.size))
      have HLW : Hid (∀ j, j < os.length → W2.cell? ⟨G, o + j * 8 + 4, none⟩ = some (.int .i64 (os[j]!).price)) := fun j hj => HLV.out W2 hb2 j hj 4 _ rfl
      clear x0 x1 x2 x3 x4 x5 x6 x7 HME2 HY HLV HB hb2
      by_cases c1 : a3 = side
      · have d1 : (a3 != side) = false := by simp [c1]
        by_cases c2 : a6 = 0
        · have d2 : (a6 == 0) = true := by simp [c2]
          have HR := hidC (HX.out.skip (fun hc => by have := (HCE.out.1.1 hc).2.1; clear ei ws3; omega))
          clear c1 c2
          go_wp2_with fail
          go_roundg (n - (k + 1))
          case measure => have := HM.out; clear ei ws3; omega
          case rel => exact ⟨k + 1, HM.out.1, Nat.le_refl _, by first | rfl | exact congrArg (Value.int .i64) ei, b, rfl, HR.out, HB2.out⟩
        · have d2 : (a6 == 0) = false := by simp [c2]
          cases M with
          | false =>
            have HR := hidC (HX.out.skip (fun hc => absurd (HCE.out.1.1 hc).2.2 (by decide)))
            clear c1 c2
            go_wp2_with fail
            go_roundg (n - (k + 1))
            case measure => have := HM.out; clear ei ws3; omega
            case rel => exact ⟨k + 1, HM.out.1, Nat.le_refl _, by first | rfl | exact congrArg (Value.int .i64) ei, b, rfl, HR.out, HB2.out⟩
          | true =>
            have HC : Hid (Cand os side p k) := HCE.out.1.2 ⟨c1, by have := HQ0.out; clear ei ws3; omega, rfl⟩
            clear c1 c2
            by_cases c3 : b < 0
            · have HR := hidC (HX.out.first c3 HC.out)
              have d3 : decide (b < 0) = true := decide_eq_true c3
              clear HLW HCE
              go_wp2_with fail
              go_quiet (fail)
              go_wp2_with fail
              go_roundg (n - (k + 1))
              case measure => have := HM.out; clear ei ws3; omega
              case rel => exact ⟨k + 1, HM.out.1, Nat.le_refl _, by first | rfl | exact congrArg (Value.int .i64) ei, _, rfl, HR.out, by first | exact HB2.out | exact HB2.out.drew | exact belN HB2.out _⟩
            · obtain ⟨i, hi, hik⟩ : ∃ i : Nat, b = (i : Int) ∧ i < k := by
                rcases HX.out with ⟨h1, -⟩ | ⟨i, h1, h2, -⟩
                · clear ei ws3; omega
                · exact ⟨i, h1, h2⟩
              subst hi
              have z4 := HLW.out i (by have := HLZ.out; clear ei ws3; omega)
              have hin : (i : Int) < (n : Int) := by have := HM.out; clear ei ws3; omega
              have HAH : Hid (∀ V, Calls Tryd.prog 37 #[.int .i64 (3 - side), .int .i64 a5, .int .i64 (os[i]!).price] V fun e w' => e = .returned (.bool (decide (keyO side os k < keyO side os i))) ∧ w' = V) := fun V => by
                have h := rahead (3 - side) a5 (os[i]!).price V (by have := HSD.out; clear ei ws3; omega)
                rw [HCE.out.2 i] at h
                exact h
              generalize (os[i]!).price = pi at z4 HAH
              have d3 : decide ((i : Int) < 0) = false := decide_eq_false c3
              by_cases c4 : keyO side os k < keyO side os i
              · have HR := hidC (HX.out.ahead HC.out c4)
                rw [decide_eq_true c4] at HAH
                clear HLW HCE c4
                go_wp2_with fail
                go_quiet ((go_at_call 37; exact Calls.quiet_of_same (HAH.out _)))
                go_wp2_with fail
                go_roundg (n - (k + 1))
                case measure => have := HM.out; clear ei ws3; omega
                case rel => exact ⟨k + 1, HM.out.1, Nat.le_refl _, by first | rfl | exact congrArg (Value.int .i64) ei, _, rfl, HR.out, by first | exact HB2.out | exact HB2.out.drew | exact belN HB2.out _⟩
              · have HR := hidC (HX.out.behind c4)
                rw [decide_eq_false c4] at HAH
                clear HLW HCE c4
                go_wp2_with fail
                go_quiet ((go_at_call 37; exact Calls.quiet_of_same (HAH.out _)))
                go_wp2_with fail
                go_roundg (n - (k + 1))
                case measure => have := HM.out; clear ei ws3; omega
                case rel => exact ⟨k + 1, HM.out.1, Nat.le_refl _, by first | rfl | exact congrArg (Value.int .i64) ei, _, rfl, HR.out, by first | exact HB2.out | exact HB2.out.drew | exact belN HB2.out _⟩
      · have d1 : (a3 != side) = true := by simp [c1]
        have HR := hidC (HX.out.skip (fun hc => c1 (HCE.out.1.1 hc).1))
        clear c1
        go_wp2_with fail
        go_roundg (n - (k + 1))
        case measure => have := HM.out; clear ei ws3; omega
        case rel => exact ⟨k + 1, HM.out.1, Nat.le_refl _, by first | rfl | exact congrArg (Value.int .i64) ei, b, rfl, HR.out, HB2.out⟩
    · have hltz : ¬ (k : Int) < (n : Int) := by omega
      have hk' : k = n := by omega
      subst hk'
      have HX := hidC HA.out.1
      have HB := hidC HA.out.2
      clear HA hg hlt hk
      go_wp2_with fail
      go_ret
      exact ⟨⟨b, rfl, HX.out⟩, HB.out⟩
end Go.Proofs.YtabcfmpmkdoieaaDoor.cal
