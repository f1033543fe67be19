/- Contracts over this seat's translation: the document's CallPrice. -/
import Derived.Test.YtabcfmpmkdoieaaDoorCalRef2
namespace Go.Proofs.YtabcfmpmkdoieaaDoor.cal
open Go.RowKit Go.Proofs.YtabcfmpmkdoieaaDoor.ord
open Go.Proofs.YtabcfmpmkdoieaaDoor.wak (Lies SL oL)
open Go.Proofs.YtabcfmpmkdoieaaDoor.spn (keeps bcell)

theorem ofAt_few {zs : List O} (h : Good zs) (p : Int) : -1000000 ≤ (ofAt zs p).over ∧ (ofAt zs p).over ≤ 1000000 := by
  have h1 := ws_small h 1 p zs.length
  have h2 := ws_small h 2 p zs.length
  rw [List.take_length] at h1 h2
  unfold ofAt
  simp only
  omega
/-- The price and the volume that CallPrice tells. -/
def rP (zs : List O) : Int := if (best zs).vol = 0 then 0 else (best zs).price
def rV (zs : List O) : Int := if (best zs).vol = 0 then 0 else (best zs).vol

set_option maxHeartbeats 4000000 in
set_option maxRecDepth 100000 in
theorem rprice_any (q : Option Addr) (n c : Nat) (zs : List O) (w : World) (hn : n = zs.length) (h : SL w (.slice q n c) zs) (hgd : Good zs) :
    Calls Tryd.prog 9 #[.slice q n c] w fun e w' => e = .returned (.tuple #[.int .i64 (rP zs), .int .i64 (rV zs)]) ∧ Below w.heap.size w w' := by
  have HS := hidC h
  have HGD := hidC hgd
  have HN := hidC hn
  have HV : Hid (∀ V p, Below w.heap.size w V → Calls Tryd.prog 6 #[.slice q n c, .int .i64 p] V fun e w' => e = .returned (.tuple #[.int .i64 (ofAt zs p).vol, .int .i64 (ofAt zs p).over]) ∧ Below V.heap.size V w') := fun V p hV => rvol_any q n c zs p V hn (h.below hV) hgd
  have HN60 : Hid (n ≤ 60) := by show n ≤ 60; rw [hn]; exact hgd.few
  have HEND : Hid (∀ b, RB zs 10000 b → b = rP zs ∧ (¬ b = 0 → (ofAt zs b).vol = rV zs) ∧ (b = 0 → rV zs = 0)) := fun b hb => by
    obtain ⟨e1, e2, e3⟩ := hb.last hgd
    refine ⟨e1, fun h0 => ?_, fun h0 => ?_⟩
    · rw [e2 h0]; unfold rV; rw [if_neg (fun h => h0 (e3.2 h))]
    · unfold rV; rw [if_pos (e3.1 h0)]
  generalize rP zs = RPZ at HEND ⊢
  generalize rV zs = RVZ at HEND ⊢
  clear h hgd hn
  go_enter Tryd.func9, Tryd.ntmps9
  go_wp2_with fail
  go_loopg [4, 5, 6, 7, 8, 9, 10, 11] 10000 (fun gg s4 s5 _ _ _ _ _ _ wr => ∃ k : Nat, k ≤ 10000 ∧ 10000 - k ≤ gg ∧ s5 = .int .i64 ((k + 1 : Nat) : Int) ∧ ∃ b : Int, s4 = .int .i64 b ∧ Aside (RB zs k b ∧ Below w.heap.size w wr))
  case atStart => exact ⟨0, Nat.zero_le _, by omega, rfl, 0, rfl, RB.start HGD.out, Below.refl _ _⟩
  case round =>
    obtain ⟨k, hk, hg, rfl, b, rfl, HA⟩ := hrel
    by_cases hlt : k < 10000
    · have hle : ((k + 1 : Nat) : Int) ≤ 10000 := by omega
      have HG : Hid (k < 10000 ∧ 10000 - k ≤ gk) := ⟨hlt, hg⟩
      obtain ⟨P, hP⟩ : ∃ P : Int, P = ((k + 1 : Nat) : Int) := ⟨_, rfl⟩
      have ep : wrap64 (P + 1) = (((k + 1) + 1 : Nat) : Int) := by rw [hP]; unfold wrap64; omega
      rw [← hP] at hle ⊢
      have HP : Hid (P = (k : Int) + 1 ∧ P = ((k + 1 : Nat) : Int)) := ⟨by rw [hP]; omega, hP⟩
      clear hk hg hlt hP
      go_wp2_with fail
      go_loopg [6, 7] n (fun g2 s6 s7 wi => ∃ j : Nat, j ≤ n ∧ n - j ≤ g2 ∧ s7 = .int .i64 j ∧ wi = wr ∧ ∃ B : Bool, s6 = .bool B ∧ Aside ((B = true → ∃ o ∈ zs, o.price = P) ∧ (B = false → ∀ o ∈ zs.take j, ¬ o.price = P)))
      case atStart => exact ⟨0, Nat.zero_le _, by omega, rfl, rfl, false, rfl, by simp, by simp⟩
      case round =>
        obtain ⟨j, hj, hg2, rfl, rfl, B, rfl, HB⟩ := hrel
        by_cases hjl : j < n
        · have hjz : (j : Int) < (n : Int) := by omega
          cases B with
          | false =>
            have hlz : j < zs.length := by have := HN.out; omega
            obtain ⟨G, o, rfl, hG, -, hL⟩ := sl_here (HS.out.below HA.out.2) (by omega)
            have x4 := hL j hlz 4 _ rfl
            have HNX : Hid (∀ M : Bool, ((zs[j]!).price == P) = M → (M = true → ∃ o ∈ zs, o.price = P) ∧ (M = false → ∀ o ∈ zs.take (j + 1), ¬ o.price = P)) := fun M hM => by
              refine ⟨fun h => ⟨zs[j]!, by rw [wak.getE zs j hlz]; exact List.getElem_mem _, by rw [h] at hM; exact beq_iff_eq.1 hM⟩, fun h o ho => ?_⟩
              rw [List.take_succ_eq_append_getElem hlz] at ho
              rcases List.mem_append.1 ho with ho | ho
              · exact HB.out.2 rfl o ho
              · rw [List.mem_singleton.1 ho, ← wak.getE zs j hlz]
                rw [h] at hM
                exact fun e => by rw [beq_iff_eq.2 e] at hM; cases hM
            generalize (zs[j]!).price = y at x4 HNX
            have HM : Hid (j < n ∧ n - j ≤ gk ∧ j ≤ 5000) := ⟨hjl, hg2, by have := HN60.out; omega⟩
            have ej := succW j HM.out.2.2
            have HNY := hidC (HNX.out _ rfl)
            clear hL hG hlz hj hg2 hjl HB HNX
            generalize hyp : (y == P) = M at HNY
            go_wp2_with fail
            go_roundg (n - (j + 1))
            case measure => have := HM.out; clear ej ep; omega
            case rel => exact ⟨j + 1, HM.out.1, Nat.le_refl _, by first | rfl | exact congrArg (Value.int .i64) ej, rfl, M, by first | rfl | exact congrArg Value.bool hyp, HNY.out⟩
          | true =>
            have hEX := HB.out.1 rfl
            have hRB := HA.out.1
            have HTK : Hid (better' zs P b → RB zs ((k : Int) + 1) P) := fun ht => by
              rw [HP.out.1] at ht hEX ⊢
              exact hRB.take (by omega) hEX ht
            have HLV : Hid (¬ better' zs P b → RB zs ((k : Int) + 1) b) := fun ht => by
              rw [HP.out.1] at ht
              exact hRB.leave ht
            have HFP := hidC (ofAt_few HGD.out P)
            have HFB := hidC (ofAt_few HGD.out b)
            have HV1 := hidC (HV.out _ P HA.out.2)
            have HV2 := hidC (fun V => HV.out V b)
            have HBL := hidC HA.out.2
            unfold better' ap at HTK HLV
            generalize (ofAt zs P).vol = v at HV1 HTK HLV
            generalize (ofAt zs P).over = l at HV1 HTK HLV HFP
            generalize (ofAt zs b).vol = x at HV2 HTK HLV
            generalize (ofAt zs b).over = r at HV2 HTK HLV HFB
            clear hEX hRB HA HB hj hg2 hjl HV HEND
            go_wp2_with fail
            refine HV1.out.mono ?_
            rintro e W1 ⟨rfl, hb1⟩
            have HB1 := hidC (HBL.out.trans (hb1.mono HBL.out.size))
            clear hb1 HV1 HBL
            go_wp2_with fail
            refine (HV2.out _ HB1.out).mono ?_
            rintro e W2 ⟨rfl, hb2⟩
            have HB2' := hidC (HB1.out.trans (hb2.mono HB1.out.size))
            clear hb2 HV2 HB1
            by_cases c1 : 0 < v
            · by_cases c2 : b = 0
              · have HR := hidC (HTK.out ⟨c1, Or.inl c2⟩)
                have HB2 := HB2'
                have d2 : (b == 0) = true := by simpa using c2
                clear c2 HTK HLV
                go_wp2_with fail
                go_roundg (10000 - (k + 1))
                case measure => have := HG.out; clear ep; omega
                case rel => exact ⟨k + 1, HG.out.1, Nat.le_refl _, by first | rfl | exact congrArg (Value.int .i64) ep, P, rfl, HR.out, HB2.out⟩
              · have d2 : (b == 0) = false := by simpa using c2
                by_cases c3 : x < v
                · have HR := hidC (HTK.out ⟨c1, Or.inr (Or.inl c3)⟩)
                  have HB2 := HB2'
                  clear c2 HTK HLV
                  go_wp2_with fail
                  go_roundg (10000 - (k + 1))
                  case measure => have := HG.out; clear ep; omega
                  case rel => exact ⟨k + 1, HG.out.1, Nat.le_refl _, by first | rfl | exact congrArg (Value.int .i64) ep, P, rfl, HR.out, HB2.out⟩
                · by_cases c4 : v = x
                  · have d4 : (v == x) = true := by simpa using c4
                    have HS1 : Hid (∀ V, Calls Tryd.prog 22 #[.int .i64 l] V fun e w' => e = .returned (.int .i64 (max l (-l))) ∧ Below V.heap.size V w') := fun V => rsize_any l V HFP.out
                    have HS2 : Hid (∀ V, Calls Tryd.prog 22 #[.int .i64 r] V fun e w' => e = .returned (.int .i64 (max r (-r))) ∧ Below V.heap.size V w') := fun V => rsize_any r V HFB.out
                    have HC : Hid (¬ b = 0 ∧ 0 < v ∧ ¬ x < v ∧ v = x) := ⟨c2, c1, c3, c4⟩
                    generalize max l (-l) = m1 at HS1 HTK HLV
                    generalize max r (-r) = m2 at HS2 HTK HLV
                    clear c2 c4
                    go_wp2_with fail
                    refine (HS1.out _).mono ?_
                    rintro e W3 ⟨rfl, hb3⟩
                    have HB3 := hidC (HB2'.out.trans (hb3.mono HB2'.out.size))
                    clear hb3 HS1 HB2'
                    go_wp2_with fail
                    refine (HS2.out _).mono ?_
                    rintro e W4 ⟨rfl, hb4⟩
                    have HB2 := hidC (HB3.out.trans (hb4.mono HB3.out.size))
                    clear hb4 HS2 HB3
                    by_cases c5 : m1 < m2
                    · have HR := hidC (HTK.out ⟨HC.out.2.1, Or.inr (Or.inr ⟨HC.out.2.2.2, c5⟩)⟩)
                      clear HTK HLV
                      go_wp2_with fail
                      go_roundg (10000 - (k + 1))
                      case measure => have := HG.out; clear ep; omega
                      case rel => exact ⟨k + 1, HG.out.1, Nat.le_refl _, by first | rfl | exact congrArg (Value.int .i64) ep, P, rfl, HR.out, HB2.out⟩
                    · have HR := hidC (HLV.out (fun h => by
                        have hc := HC.out
                        rcases h.2 with h | h | h
                        · exact hc.1 h
                        · have h3 := hc.2.2.1; clear ep; omega
                        · exact c5 h.2))
                      clear HTK HLV
                      go_wp2_with fail
                      go_roundg (10000 - (k + 1))
                      case measure => have := HG.out; clear ep; omega
                      case rel => exact ⟨k + 1, HG.out.1, Nat.le_refl _, by first | rfl | exact congrArg (Value.int .i64) ep, b, rfl, HR.out, HB2.out⟩
                  · have d4 : (v == x) = false := by simpa using c4
                    have HR := hidC (HLV.out (fun h => by
                      rcases h.2 with h | h | h
                      · exact c2 h
                      · exact c3 h
                      · exact c4 h.1))
                    have HB2 := HB2'
                    clear c2 c4 HTK HLV
                    go_wp2_with fail
                    go_roundg (10000 - (k + 1))
                    case measure => have := HG.out; clear ep; omega
                    case rel => exact ⟨k + 1, HG.out.1, Nat.le_refl _, by first | rfl | exact congrArg (Value.int .i64) ep, b, rfl, HR.out, HB2.out⟩
            · have HR := hidC (HLV.out (fun h => c1 h.1))
              have HB2 := HB2'
              clear HTK HLV
              go_wp2_with fail
              go_roundg (10000 - (k + 1))
              case measure => have := HG.out; clear ep; omega
              case rel => exact ⟨k + 1, HG.out.1, Nat.le_refl _, by first | rfl | exact congrArg (Value.int .i64) ep, b, rfl, HR.out, HB2.out⟩
        · have hjz : ¬ (j : Int) < (n : Int) := by omega
          cases B with
          | false =>
            have HSK : Hid (RB zs ((k : Int) + 1) b) := HA.out.1.skip (by
              have h1 := HB.out.2 rfl
              rw [List.take_of_length_le (by have := HN.out; omega), HP.out.1] at h1
              exact h1)
            have HBL := hidC HA.out.2
            clear HA HB hj hg2 hjl
            go_wp2_with fail
            go_roundg (10000 - (k + 1))
            case measure => have := HG.out; clear ep; omega
            case rel => exact ⟨k + 1, HG.out.1, Nat.le_refl _, by first | rfl | exact congrArg (Value.int .i64) ep, b, rfl, HSK.out, HBL.out⟩
          | true =>
            have hEX := HB.out.1 rfl
            have hRB := HA.out.1
            have HTK : Hid (better' zs P b → RB zs ((k : Int) + 1) P) := fun ht => by
              rw [HP.out.1] at ht hEX ⊢
              exact hRB.take (by omega) hEX ht
            have HLV : Hid (¬ better' zs P b → RB zs ((k : Int) + 1) b) := fun ht => by
              rw [HP.out.1] at ht
              exact hRB.leave ht
            have HFP := hidC (ofAt_few HGD.out P)
            have HFB := hidC (ofAt_few HGD.out b)
            have HV1 := hidC (HV.out _ P HA.out.2)
            have HV2 := hidC (fun V => HV.out V b)
            have HBL := hidC HA.out.2
            unfold better' ap at HTK HLV
            generalize (ofAt zs P).vol = v at HV1 HTK HLV
            generalize (ofAt zs P).over = l at HV1 HTK HLV HFP
            generalize (ofAt zs b).vol = x at HV2 HTK HLV
            generalize (ofAt zs b).over = r at HV2 HTK HLV HFB
            clear hEX hRB HA HB hj hg2 hjl HV HEND
            go_wp2_with fail
            refine HV1.out.mono ?_
            rintro e W1 ⟨rfl, hb1⟩
            have HB1 := hidC (HBL.out.trans (hb1.mono HBL.out.size))
            clear hb1 HV1 HBL
            go_wp2_with fail
            refine (HV2.out _ HB1.out).mono ?_
            rintro e W2 ⟨rfl, hb2⟩
            have HB2' := hidC (HB1.out.trans (hb2.mono HB1.out.size))
            clear hb2 HV2 HB1
            by_cases c1 : 0 < v
            · by_cases c2 : b = 0
              · have HR := hidC (HTK.out ⟨c1, Or.inl c2⟩)
                have HB2 := HB2'
                have d2 : (b == 0) = true := by simpa using c2
                clear c2 HTK HLV
                go_wp2_with fail
                go_roundg (10000 - (k + 1))
                case measure => have := HG.out; clear ep; omega
                case rel => exact ⟨k + 1, HG.out.1, Nat.le_refl _, by first | rfl | exact congrArg (Value.int .i64) ep, P, rfl, HR.out, HB2.out⟩
              · have d2 : (b == 0) = false := by simpa using c2
                by_cases c3 : x < v
                · have HR := hidC (HTK.out ⟨c1, Or.inr (Or.inl c3)⟩)
                  have HB2 := HB2'
                  clear c2 HTK HLV
                  go_wp2_with fail
                  go_roundg (10000 - (k + 1))
                  case measure => have := HG.out; clear ep; omega
                  case rel => exact ⟨k + 1, HG.out.1, Nat.le_refl _, by first | rfl | exact congrArg (Value.int .i64) ep, P, rfl, HR.out, HB2.out⟩
                · by_cases c4 : v = x
                  · have d4 : (v == x) = true := by simpa using c4
                    have HS1 : Hid (∀ V, Calls Tryd.prog 22 #[.int .i64 l] V fun e w' => e = .returned (.int .i64 (max l (-l))) ∧ Below V.heap.size V w') := fun V => rsize_any l V HFP.out
                    have HS2 : Hid (∀ V, Calls Tryd.prog 22 #[.int .i64 r] V fun e w' => e = .returned (.int .i64 (max r (-r))) ∧ Below V.heap.size V w') := fun V => rsize_any r V HFB.out
                    have HC : Hid (¬ b = 0 ∧ 0 < v ∧ ¬ x < v ∧ v = x) := ⟨c2, c1, c3, c4⟩
                    generalize max l (-l) = m1 at HS1 HTK HLV
                    generalize max r (-r) = m2 at HS2 HTK HLV
                    clear c2 c4
                    go_wp2_with fail
                    refine (HS1.out _).mono ?_
                    rintro e W3 ⟨rfl, hb3⟩
                    have HB3 := hidC (HB2'.out.trans (hb3.mono HB2'.out.size))
                    clear hb3 HS1 HB2'
                    go_wp2_with fail
                    refine (HS2.out _).mono ?_
                    rintro e W4 ⟨rfl, hb4⟩
                    have HB2 := hidC (HB3.out.trans (hb4.mono HB3.out.size))
                    clear hb4 HS2 HB3
                    by_cases c5 : m1 < m2
                    · have HR := hidC (HTK.out ⟨HC.out.2.1, Or.inr (Or.inr ⟨HC.out.2.2.2, c5⟩)⟩)
                      clear HTK HLV
                      go_wp2_with fail
                      go_roundg (10000 - (k + 1))
                      case measure => have := HG.out; clear ep; omega
                      case rel => exact ⟨k + 1, HG.out.1, Nat.le_refl _, by first | rfl | exact congrArg (Value.int .i64) ep, P, rfl, HR.out, HB2.out⟩
                    · have HR := hidC (HLV.out (fun h => by
                        have hc := HC.out
                        rcases h.2 with h | h | h
                        · exact hc.1 h
                        · have h3 := hc.2.2.1; clear ep; omega
                        · exact c5 h.2))
                      clear HTK HLV
                      go_wp2_with fail
                      go_roundg (10000 - (k + 1))
                      case measure => have := HG.out; clear ep; omega
                      case rel => exact ⟨k + 1, HG.out.1, Nat.le_refl _, by first | rfl | exact congrArg (Value.int .i64) ep, b, rfl, HR.out, HB2.out⟩
                  · have d4 : (v == x) = false := by simpa using c4
                    have HR := hidC (HLV.out (fun h => by
                      rcases h.2 with h | h | h
                      · exact c2 h
                      · exact c3 h
                      · exact c4 h.1))
                    have HB2 := HB2'
                    clear c2 c4 HTK HLV
                    go_wp2_with fail
                    go_roundg (10000 - (k + 1))
                    case measure => have := HG.out; clear ep; omega
                    case rel => exact ⟨k + 1, HG.out.1, Nat.le_refl _, by first | rfl | exact congrArg (Value.int .i64) ep, b, rfl, HR.out, HB2.out⟩
            · have HR := hidC (HLV.out (fun h => c1 h.1))
              have HB2 := HB2'
              clear HTK HLV
              go_wp2_with fail
              go_roundg (10000 - (k + 1))
              case measure => have := HG.out; clear ep; omega
              case rel => exact ⟨k + 1, HG.out.1, Nat.le_refl _, by first | rfl | exact congrArg (Value.int .i64) ep, b, rfl, HR.out, HB2.out⟩
    · have hle : ¬ ((k + 1 : Nat) : Int) ≤ 10000 := by omega
      have hk' : k = 10000 := by omega
      subst hk'
      have hE := HEND.out b HA.out.1
      have HB := hidC HA.out.2
      clear HA hg hlt hk
      by_cases h0 : b = 0
      · subst h0
        have HE : Hid (RPZ = 0 ∧ RVZ = 0) := ⟨hE.1.symm, hE.2.2 rfl⟩
        clear hE
        go_wp2_with fail
        go_ret2
        exact ⟨by rw [HE.out.1, HE.out.2]; rfl, HB.out⟩
      · have hb0 : (b == 0) = false := by simpa using h0
        have HE : Hid (b = RPZ ∧ (ofAt zs b).vol = RVZ) := ⟨hE.1, hE.2.1 h0⟩
        clear hE h0
        go_wp2_with fail
        refine (HV.out _ b HB.out).mono ?_
        rintro e W2 ⟨rfl, hb2⟩
        have HB2 := hidC (HB.out.trans (hb2.mono HB.out.size))
        clear hb2
        go_wp2_with fail
        go_ret2
        exact ⟨by rw [← HE.out.1, ← HE.out.2]; rfl, HB2.out⟩
end Go.Proofs.YtabcfmpmkdoieaaDoor.cal
