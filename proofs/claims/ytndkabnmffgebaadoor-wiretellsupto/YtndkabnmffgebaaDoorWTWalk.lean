/- The law WireTells, walked. -/
import Derived.Test.YtndkabnmffgebaaDoorWirPak
import Derived.Test.YtndkabnmffgebaaDoorWirSame
import Derived.Test.YtndkabnmffgebaaDoorWTUnp
import Derived.Test.YtndkabnmffgebaaDoorTold
import Derived.Lib.ConvBytes
namespace Go.Proofs.YtndkabnmffgebaaDoor.wir
open Go.RowKit
open Go.Proofs.YtndkabnmffgebaaDoor.ord (errV errV_zero errV_of)

theorem terr (k : Int) (w : World) (hL : told.Laid w) : ∀ W, Below w.heap.size w W → Calls Tryd.prog 5 #[errV k, .int .i64 k] W fun ev w' => ev = .returned (.bool true) ∧ Below W.heap.size W w' := fun W hW => by
  refine (told.error_any W k k W ⟨hL.below hW, Below.refl _ _⟩).mono fun _ _ h => ⟨?_, h.2.2⟩
  rw [h.1, beq_self_eq_true]
/-- A call behind a world that lies behind another. -/
theorem on_top {f : Nat} {args : Array Value} {Z : Nat} {V W : World} {P : Ending → Prop} (hZ : Z = V.heap.size) (hW : Below Z V W) (h : Calls Tryd.prog f args W fun e w' => P e ∧ Below W.heap.size W w') : Calls Tryd.prog f args W fun e w' => P e ∧ Below Z V w' :=
  h.mono fun _ _ x => ⟨x.1, hW.trans (x.2.mono (by rw [hZ] at hW ⊢; exact hW.size))⟩
def rdX (y : Option (List Int)) : List Int := y.getD zero11
theorem rrV_eq (y : Option (List Int)) : rrV y = .tuple #[cV (rdX y), .bool y.isSome] := by cases y <;> rfl
theorem rcV_eq (y : Option (List Int)) : rcV y = .tuple #[cV (rdX y), errV (if y.isSome = true then 0 else 2)] := by cases y <;> rfl
theorem rdX_length (b : List UInt8) : (rdX (rdC b)).length = 11 := by
  cases h : rdC b with
  | none => rfl
  | some x => exact (rdC_some h).1
theorem tx_append (a b : List UInt8) : tx a ++ tx b = tx (a ++ b) := by
  apply ByteArray.ext
  simp [tx]
theorem one_byte (w : World) (m : Nat) (h : m < 256) : Lib.Bytes (w.alloc (.cells #[.int .u8 (m : Int)] 5)) w.heap.size 0 (tx [UInt8.ofNat m]) := by
  intro i hi
  have hi0 : i = 0 := by rw [tx_size] at hi; simpa using hi
  subst hi0
  have e : (tx [UInt8.ofNat m])[0] = UInt8.ofNat m := rfl
  rw [e, UInt8.toNat_ofNat', Nat.mod_eq_of_lt h]
  exact cell1 0 _ rfl
theorem cx_nil (w : World) : CX w (.slice none 0 0) [] := ⟨by simp, .inl ⟨rfl, rfl⟩⟩
/-- Where the loop over the commands stands. -/
def Stn (zs : List (List Int)) (k : Nat) (e : Int) (S : ByteArray) : Prop := (e = 0 ∧ zs.length ≤ 400 ∧ okTo zs k ∧ S = tx (packB (zs.take k))) ∨ (e ≠ 0 ∧ e = packE zs)

set_option maxRecDepth 100000 in
set_option maxHeartbeats 2000000 in
theorem tells_walk (xs : List Int) (hl : xs.length = 11) (s : ByteArray) (hs : s.size ≤ 2000000) (v : Value) (zs : List (List Int)) (t : ByteArray) (ht : t.size ≤ 2000000) (w : World) (hv : CX w v zs) (hL : told.Laid w) :
    Calls Tryd.prog 3 #[cV xs, .string s, v, .string t] w fun e w' => e = .returned (.bool true) ∧ Below w.heap.size w w' := by
  have HVV := hidW hv
  have HTS := hidW (And.intro hs ht)
  have HLL := hidW hL
  obtain ⟨X, hX⟩ : ∃ X, X = w.heap.size := ⟨_, rfl⟩
  obtain ⟨V, hV⟩ : ∃ V, V = w.alloc (.cells (iL xs).toArray 25) := ⟨_, rfl⟩
  obtain ⟨Z, hZ⟩ : ∃ Z, Z = V.heap.size := ⟨_, rfl⟩
  have HV : Hid (Below X w V ∧ Cmd V X xs ∧ V.heap.size = X + 1) := by
    subst hV hX
    exact ⟨(Below.refl _ _).alloc (Nat.le_refl _) _, heap_alloc_new _ _, by simp⟩
  have HX := hidW hX
  have HZ := hidW hZ
  have HBX : Hid (∀ W, Below Z V W → Below X w W) := fun W hW => HV.out.1.trans (hW.mono (by have := HV.out.2.2; rw [HZ.out]; omega))
  have HTE : Hid (∀ k W, Below Z V W → Calls Tryd.prog 5 #[errV k, .int .i64 k] W fun ev w' => ev = .returned (.bool true) ∧ Below Z V w') := fun k W hW =>
    on_top HZ.out hW (terr k w hL W (by rw [← HX.out]; exact HBX.out W hW))
  obtain ⟨q, c, rfl, hnm⟩ := hv.form
  obtain ⟨n, hN⟩ : ∃ n, n = zs.length := ⟨_, rfl⟩
  have HN := hidW (And.intro hN hnm)
  rw [← hN] at HVV
  rw [← hX, ← hN]
  have HXL := hidW hl
  obtain ⟨c0, c1, c2, c3, c4, c5, c6, c7, c8, c9, c10, hxs⟩ := list11' hl
  have hcv : cV xs = .agg #[.int .i64 c0, .int .i64 c1, .int .i64 c2, .int .i64 c3, .int .i64 c4, .int .i64 c5, .int .i64 c6, .int .i64 c7, .int .i64 c8, .int .i64 c9, .int .i64 c10] := by rw [hxs]; rfl
  have hiv : (iL xs).toArray = #[.int .i64 c0, .int .i64 c1, .int .i64 c2, .int .i64 c3, .int .i64 c4, .int .i64 c5, .int .i64 c6, .int .i64 c7, .int .i64 c8, .int .i64 c9, .int .i64 c10] := by rw [hxs]; rfl
  rw [hiv] at hV
  have HCM := hidW HV.out.2.1
  rw [hxs] at HCM
  have HB : Hid (∀ W, Below Z V W → (W.cell? ⟨X, 0, none⟩ = some (.int .i64 c0) ∧ W.cell? ⟨X, 1, none⟩ = some (.int .i64 c1) ∧ W.cell? ⟨X, 2, none⟩ = some (.int .i64 c2) ∧ W.cell? ⟨X, 3, none⟩ = some (.int .i64 c3) ∧ W.cell? ⟨X, 4, none⟩ = some (.int .i64 c4) ∧ W.cell? ⟨X, 5, none⟩ = some (.int .i64 c5) ∧ W.cell? ⟨X, 6, none⟩ = some (.int .i64 c6) ∧ W.cell? ⟨X, 7, none⟩ = some (.int .i64 c7) ∧ W.cell? ⟨X, 8, none⟩ = some (.int .i64 c8) ∧ W.cell? ⟨X, 9, none⟩ = some (.int .i64 c9) ∧ W.cell? ⟨X, 10, none⟩ = some (.int .i64 c10))) := fun W hW => (HCM.out.below (by rw [← HZ.out]; exact hW)).row
  obtain ⟨E, hE⟩ : ∃ E, E = cchk xs := ⟨_, rfl⟩
  obtain ⟨bS, hbS⟩ : ∃ b, b = cmdS xs := ⟨_, rfl⟩
  have HE := hidW (And.intro hE hbS)
  have HRC : Hid (∀ W, Below Z V W → Calls Tryd.prog 4 #[.agg #[.int .i64 c0, .int .i64 c1, .int .i64 c2, .int .i64 c3, .int .i64 c4, .int .i64 c5, .int .i64 c6, .int .i64 c7, .int .i64 c8, .int .i64 c9, .int .i64 c10]] W fun e w' => e = .returned (.int .i64 E) ∧ Below Z V w') := fun W hW => by
    rw [← hcv, hE]; exact on_top HZ.out hW (rcommand_any xs hl W)
  have HCK0 : Hid (∀ W, Below Z V W → Calls Tryd.prog 6 #[.agg #[.int .i64 c0, .int .i64 c1, .int .i64 c2, .int .i64 c3, .int .i64 c4, .int .i64 c5, .int .i64 c6, .int .i64 c7, .int .i64 c8, .int .i64 c9, .int .i64 c10]] W fun e w' => e = .returned (errV E) ∧ Below Z V w') := fun W hW => by
    rw [← hcv, hE]; exact on_top HZ.out hW (check_any xs hl W)
  have HCO0 : Hid (∀ W, Below Z V W → Calls Tryd.prog 8 #[.agg #[.int .i64 c0, .int .i64 c1, .int .i64 c2, .int .i64 c3, .int .i64 c4, .int .i64 c5, .int .i64 c6, .int .i64 c7, .int .i64 c8, .int .i64 c9, .int .i64 c10]] W fun e w' => e = .returned (.tuple #[.string bS, errV E]) ∧ Below Z V w') := fun W hW => by
    rw [← hcv, hE, hbS]; exact on_top HZ.out hW (command_any xs hl W)
  have HRB : Hid (E = 0 → ∀ W, Below Z V W → Calls Tryd.prog 7 #[.agg #[.int .i64 c0, .int .i64 c1, .int .i64 c2, .int .i64 c3, .int .i64 c4, .int .i64 c5, .int .i64 c6, .int .i64 c7, .int .i64 c8, .int .i64 c9, .int .i64 c10]] W fun e w' => e = .returned (.string bS) ∧ Below Z V w') := fun h0 W hW => by
    have hck : cchk xs = 0 := by rw [← hE]; exact h0
    rw [← hcv, hbS, cmdS, if_pos hck]; exact on_top HZ.out hW (rbytes_any xs hl hck W)
  have HER0 := hidW (HTE.out E)
  obtain ⟨ev, hev⟩ : ∃ ev, ev = errV E := ⟨_, rfl⟩
  have HCK : Hid (∀ W, Below Z V W → Calls Tryd.prog 6 #[.agg #[.int .i64 c0, .int .i64 c1, .int .i64 c2, .int .i64 c3, .int .i64 c4, .int .i64 c5, .int .i64 c6, .int .i64 c7, .int .i64 c8, .int .i64 c9, .int .i64 c10]] W fun e w' => e = .returned ev ∧ Below Z V w') := by rw [hev]; exact HCK0
  have HCO : Hid (∀ W, Below Z V W → Calls Tryd.prog 8 #[.agg #[.int .i64 c0, .int .i64 c1, .int .i64 c2, .int .i64 c3, .int .i64 c4, .int .i64 c5, .int .i64 c6, .int .i64 c7, .int .i64 c8, .int .i64 c9, .int .i64 c10]] W fun e w' => e = .returned (.tuple #[.string bS, ev]) ∧ Below Z V w') := by rw [hev]; exact HCO0
  have HER : Hid (∀ W, Below Z V W → Calls Tryd.prog 5 #[ev, .int .i64 E] W fun ev w' => ev = .returned (.bool true) ∧ Below Z V w') := by rw [hev]; exact HER0
  have hb0 : Below Z V V := by rw [hZ]; exact Below.refl _ _
  have HB0 := hidW hb0
  rw [hcv]
  clear hev HER0 HCK0 HCO0 hE hbS hxs hcv hiv hl hN hnm hv hL hs ht hb0 hZ
  go_enter Tryd.func3, Tryd.ntmps3
  go_upto_region 1 with fail
  simp only [← hX]
  simp only [← hV]
  clear hX hV
  obtain ⟨a0, a1, a2, a3, a4, a5, a6, a7, a8, a9, a10⟩ := HB.out V HB0.out
  go_upto_region 2 with (go_at_call 4; refine (HRC.out _ HB0.out).mono ?_; rintro e w1 ⟨rfl, hb1⟩)
  clear a0 a1 a2 a3 a4 a5 a6 a7 a8 a9 a10
  obtain ⟨a0, a1, a2, a3, a4, a5, a6, a7, a8, a9, a10⟩ := HB.out w1 hb1
  have HB1 := hidW hb1
  clear hb1
  go_upto_region 3 with (first | (go_at_call 6; refine (HCK.out _ HB1.out).mono ?_; rintro e w2 ⟨rfl, hb2⟩) | (go_at_call 5; refine (HER.out _ hb2).mono ?_; rintro e w3 ⟨rfl, hb3⟩))
  clear a0 a1 a2 a3 a4 a5 a6 a7 a8 a9 a10
  have HB3 := hidW hb3
  clear hb2 hb3
  go_upto_if 35 with fail
  go_cut [11] from 35 to 37 (fun s11 wx => s11 = .string bS ∧ Aside (Below Z V wx))
  case first =>
    obtain ⟨a0, a1, a2, a3, a4, a5, a6, a7, a8, a9, a10⟩ := HB.out w3 HB3.out
    by_cases h0 : E = 0
    · have HRB2 := hidW (HRB.out h0)
      subst h0
      go_wp2_with (go_at_call 7; refine (HRB2.out _ HB3.out).mono ?_; rintro e w4 ⟨rfl, hb4⟩)
      go_meet
      case rel => exact ⟨rfl, hb4⟩
    · have hbe : bS = ⟨#[]⟩ := by rw [HE.out.2, cmdS, if_neg (by rw [← HE.out.1]; exact h0)]
      have HBE := hidW hbe
      clear hbe
      go_wp2_with fail
      go_meet
      case rel => exact ⟨congrArg Value.string HBE.out.symm, HB3.out⟩
  case rest =>
  obtain ⟨rfl, HA0⟩ := hcut
  have HA := hidW HA0.out
  clear HA0 HRB HRC HCK
  obtain ⟨a0, a1, a2, a3, a4, a5, a6, a7, a8, a9, a10⟩ := HB.out wc HA.out
  go_upto_region 7 with (go_at_call 8; refine (HCO.out _ HA.out).mono ?_; rintro e w5 ⟨rfl, hb5⟩)
  clear a0 a1 a2 a3 a4 a5 a6 a7 a8 a9 a10
  have HB5 := hidW hb5
  clear hb5
  go_upto_region 8 with (go_at_call 5; refine (HER.out _ HB5.out).mono ?_; rintro e w6 ⟨rfl, hb6⟩)
  have HB6 := hidW hb6
  clear hb6 HER HCO HA HB3 HB1
  obtain ⟨z, hz⟩ : ∃ z, z = rdX (rdC (bl s)) := ⟨_, rfl⟩
  obtain ⟨ok, hok⟩ : ∃ ok, ok = (rdC (bl s)).isSome := ⟨_, rfl⟩
  obtain ⟨K, hK⟩ : ∃ K : Int, K = if ok = true then 0 else 2 := ⟨_, rfl⟩
  have HKK := hidW hK
  have hz11 : z.length = 11 := by rw [hz]; exact rdX_length _
  have HZL := hidW hz11
  obtain ⟨z0, z1, z2, z3, z4, z5, z6, z7, z8, z9, z10, hzz⟩ := list11' hz11
  have hcz : cV z = .agg #[.int .i64 z0, .int .i64 z1, .int .i64 z2, .int .i64 z3, .int .i64 z4, .int .i64 z5, .int .i64 z6, .int .i64 z7, .int .i64 z8, .int .i64 z9, .int .i64 z10] := by rw [hzz]; rfl
  have HZZ := hidW (And.intro hzz hcz)
  have HRR : Hid (∀ W, Below Z V W → Calls Tryd.prog 9 #[.string s] W fun e w' => e = .returned (.tuple #[.agg #[.int .i64 z0, .int .i64 z1, .int .i64 z2, .int .i64 z3, .int .i64 z4, .int .i64 z5, .int .i64 z6, .int .i64 z7, .int .i64 z8, .int .i64 z9, .int .i64 z10], .bool ok]) ∧ Below Z V w') := fun W hW => by
    have := on_top HZ.out hW (rread_any s HTS.out.1 W)
    rw [rrV_eq, ← hz, ← hok, hcz] at this
    exact this
  obtain ⟨ew, hew⟩ : ∃ ew, ew = errV K := ⟨_, rfl⟩
  have HRD : Hid (∀ W, Calls Tryd.prog 10 #[.string s] W fun e w' => e = .returned (.tuple #[.agg #[.int .i64 z0, .int .i64 z1, .int .i64 z2, .int .i64 z3, .int .i64 z4, .int .i64 z5, .int .i64 z6, .int .i64 z7, .int .i64 z8, .int .i64 z9, .int .i64 z10], ew]) ∧ Below W.heap.size W w') := fun W => by
    have := readc_walk s (by have := HTS.out.1; omega) W
    rw [rcV_eq, ← hz, ← hok, hcz, ← hK] at this
    rw [hew]
    exact this
  have HEW0 := hidW hew
  clear hz hok hK hz11 hzz hcz hew
  go_upto_region 9 with (go_at_call 9; refine (HRR.out _ HB6.out).mono ?_; rintro e w7 ⟨rfl, hb7⟩)
  obtain ⟨Y, hY⟩ : ∃ Y, Y = w7.heap.size := ⟨_, rfl⟩
  obtain ⟨V1, hV1⟩ : ∃ V1, V1 = w7.alloc (.cells #[.int .i64 z0, .int .i64 z1, .int .i64 z2, .int .i64 z3, .int .i64 z4, .int .i64 z5, .int .i64 z6, .int .i64 z7, .int .i64 z8, .int .i64 z9, .int .i64 z10] 25) := ⟨_, rfl⟩
  have HV1 : Hid (Below Z V V1 ∧ Cmd V1 Y [z0, z1, z2, z3, z4, z5, z6, z7, z8, z9, z10] ∧ Z ≤ Y ∧ V1.heap.size = Y + 1) := by
    rw [hV1, hY]
    refine ⟨hb7.alloc (by rw [HZ.out] at hb7 ⊢; exact hb7.size) _, heap_alloc_new _ _, by rw [HZ.out] at hb7 ⊢; exact hb7.size, by simp⟩
  simp only [← hY]
  simp only [← hV1]
  clear hY hV1 hb7 HRR HB6 HB5
  go_upto_if 52 with fail
  go_cut [9] from 52 to 52 (fun s9 wx => s9 = .int .i64 K ∧ wx = V1)
  case first =>
    cases ok with
    | true =>
      have hK : K = 0 := HKK.out
      go_wp2_with fail
      go_meet
      case rel => exact ⟨congrArg (Value.int .i64) hK.symm, rfl⟩
    | false =>
      have hK : K = 2 := HKK.out
      go_wp2_with fail
      go_meet
      case rel => exact ⟨congrArg (Value.int .i64) hK.symm, rfl⟩
  case rest =>
  obtain ⟨rfl, rfl⟩ := hcut
  go_upto_region 13 with (go_at_call 10; refine (HRD.out _).mono ?_; rintro e w8 ⟨rfl, hb8⟩)
  obtain ⟨Y2, hY2⟩ : ∃ Y2, Y2 = w8.heap.size := ⟨_, rfl⟩
  obtain ⟨V2, hV2⟩ : ∃ V2, V2 = w8.alloc (.cells #[.int .i64 z0, .int .i64 z1, .int .i64 z2, .int .i64 z3, .int .i64 z4, .int .i64 z5, .int .i64 z6, .int .i64 z7, .int .i64 z8, .int .i64 z9, .int .i64 z10] 25) := ⟨_, rfl⟩
  obtain ⟨T, hT⟩ : ∃ T, T = V2.heap.size := ⟨_, rfl⟩
  have HT := hidW hT
  have HV2 : Hid (Below X w V2 ∧ Cmd V2 Y [z0, z1, z2, z3, z4, z5, z6, z7, z8, z9, z10] ∧ Cmd V2 Y2 [z0, z1, z2, z3, z4, z5, z6, z7, z8, z9, z10] ∧ X ≤ T) := by
    have h1 := HBX.out _ HV1.out.1
    have h3 := hb8.alloc hb8.size (.cells #[.int .i64 z0, .int .i64 z1, .int .i64 z2, .int .i64 z3, .int .i64 z4, .int .i64 z5, .int .i64 z6, .int .i64 z7, .int .i64 z8, .int .i64 z9, .int .i64 z10] 25)
    rw [← hV2] at h3
    have h2 : Below X w V2 := h1.trans (h3.mono (by have := h1.size; rw [HX.out]; exact this))
    exact ⟨h2, HV1.out.2.1.below h3, by rw [hV2, hY2]; exact heap_alloc_new _ _, by rw [hT, HX.out]; exact h2.size⟩
  have HC : Hid (∀ W, Below T V2 W → (Below X w W ∧ (W.cell? ⟨Y, 0, none⟩ = some (.int .i64 z0) ∧ W.cell? ⟨Y, 1, none⟩ = some (.int .i64 z1) ∧ W.cell? ⟨Y, 2, none⟩ = some (.int .i64 z2) ∧ W.cell? ⟨Y, 3, none⟩ = some (.int .i64 z3) ∧ W.cell? ⟨Y, 4, none⟩ = some (.int .i64 z4) ∧ W.cell? ⟨Y, 5, none⟩ = some (.int .i64 z5) ∧ W.cell? ⟨Y, 6, none⟩ = some (.int .i64 z6) ∧ W.cell? ⟨Y, 7, none⟩ = some (.int .i64 z7) ∧ W.cell? ⟨Y, 8, none⟩ = some (.int .i64 z8) ∧ W.cell? ⟨Y, 9, none⟩ = some (.int .i64 z9) ∧ W.cell? ⟨Y, 10, none⟩ = some (.int .i64 z10)) ∧ (W.cell? ⟨Y2, 0, none⟩ = some (.int .i64 z0) ∧ W.cell? ⟨Y2, 1, none⟩ = some (.int .i64 z1) ∧ W.cell? ⟨Y2, 2, none⟩ = some (.int .i64 z2) ∧ W.cell? ⟨Y2, 3, none⟩ = some (.int .i64 z3) ∧ W.cell? ⟨Y2, 4, none⟩ = some (.int .i64 z4) ∧ W.cell? ⟨Y2, 5, none⟩ = some (.int .i64 z5) ∧ W.cell? ⟨Y2, 6, none⟩ = some (.int .i64 z6) ∧ W.cell? ⟨Y2, 7, none⟩ = some (.int .i64 z7) ∧ W.cell? ⟨Y2, 8, none⟩ = some (.int .i64 z8) ∧ W.cell? ⟨Y2, 9, none⟩ = some (.int .i64 z9) ∧ W.cell? ⟨Y2, 10, none⟩ = some (.int .i64 z10)))) := fun W hW =>
    ⟨HV2.out.1.trans (hW.mono HV2.out.2.2.2), (HV2.out.2.1.below (by rw [← HT.out]; exact hW)).row, (HV2.out.2.2.1.below (by rw [← HT.out]; exact hW)).row⟩
  have HTE2 : Hid (∀ k W, Below T V2 W → Calls Tryd.prog 5 #[errV k, .int .i64 k] W fun ev w' => ev = .returned (.bool true) ∧ Below T V2 w') := fun k W hW =>
    on_top HT.out hW (terr k w HLL.out W (by rw [← HX.out]; exact (HC.out W hW).1))
  have HEW : Hid (∀ W, Below T V2 W → Calls Tryd.prog 5 #[ew, .int .i64 K] W fun ev w' => ev = .returned (.bool true) ∧ Below T V2 w') := by rw [HEW0.out]; exact hidW (HTE2.out K)
  have HT0 : Hid (Below T V2 V2) := by rw [HT.out]; exact hidW (Below.refl _ _)
  simp only [← hY2]
  simp only [← hV2]
  clear hY2 hV2 hT hb8 HRD HV1 HTE HEW0 HB HB0 HBX
  go_upto_if 63 with (go_at_call 5; refine (HEW.out _ HT0.out).mono ?_; rintro e w9 ⟨rfl, hb9⟩)
  obtain ⟨K4, hK4⟩ : ∃ K : Int, K = if 400 < n then 4 else 0 := ⟨_, rfl⟩
  have HK4 := hidW hK4
  have HB9 := hidW hb9
  clear hK4 hb9 HEW
  go_cut [9] from 63 to 63 (fun s9 wx => s9 = .int .i64 K4 ∧ wx = w9)
  case first =>
    by_cases h4 : 400 < n
    · have hK : K4 = 4 := by rw [HK4.out, if_pos h4]
      have hgt : (400 : Int) < (n : Int) := by omega
      have HKH := hidW hK
      clear hK
      go_wp2_with fail
      go_meet
      case rel => exact ⟨congrArg (Value.int .i64) HKH.out.symm, rfl⟩
    · have hK : K4 = 0 := by rw [HK4.out, if_neg h4]
      have hgt : ¬ (400 : Int) < (n : Int) := by omega
      have HKH := hidW hK
      clear hK
      go_wp2_with fail
      go_meet
      case rel => exact ⟨congrArg (Value.int .i64) HKH.out.symm, rfl⟩
  case rest =>
  obtain ⟨rfl, rfl⟩ := hcut
  go_wp2_with fail
  go_loopg [9, 19, 20, 21] n (fun gg s9 s19 s20 s21 wx => ∃ (k : Nat) (e' : Int) (S : ByteArray), s9 = .int .i64 e' ∧ s19 = .string S ∧ s20 = .int .i64 k ∧ k ≤ n ∧ n - k ≤ gg ∧ Aside (Stn zs k e' S ∧ Below T V2 wx))
  case atStart =>
    refine ⟨0, K4, ⟨#[]⟩, rfl, rfl, rfl, Nat.zero_le _, by omega, ?_, HB9.out⟩
    by_cases h4 : 400 < n
    · exact .inr ⟨by rw [HK4.out, if_pos h4]; decide, by rw [HK4.out, if_pos h4, packE, if_pos (by rw [← HN.out.1]; exact h4)]⟩
    · exact .inl ⟨by rw [HK4.out, if_neg h4], by rw [← HN.out.1]; omega, ⟨rfl, rfl⟩, rfl⟩
  case round =>
    obtain ⟨k, e', S, rfl, rfl, rfl, hk, hg, HA⟩ := hrel
    have HA2 := hidW HA.out
    clear HA
    go_upto_region 19 with fail
    go_cut [71] from 64 to 71 (fun s71 wx => s71 = .bool (decide (k < n ∧ e' = 0)) ∧ wx = wr)
    case first =>
      by_cases h1 : k < n
      · have hltz : (k : Int) < (n : Int) := by omega
        by_cases h2 : e' = 0
        · have hd := hidW (decide_eq_true (And.intro h1 h2))
          subst h2
          go_wp2_with fail
          go_meet
          case rel => exact ⟨congrArg Value.bool hd.out.symm, rfl⟩
        · have hd : Hid (decide (k < n ∧ e' = 0) = false) := hidW (decide_eq_false (fun h => h2 h.2))
          have h2b : (e' == 0) = false := by simpa using h2
          go_wp2_with fail
          go_meet
          case rel => exact ⟨congrArg Value.bool hd.out.symm, rfl⟩
      · have hltz : ¬ (k : Int) < (n : Int) := by omega
        have hd : Hid (decide (k < n ∧ e' = 0) = false) := hidW (decide_eq_false (fun h => h1 h.1))
        go_wp2_with fail
        go_meet
        case rel => exact ⟨congrArg Value.bool hd.out.symm, rfl⟩
    case rest =>
    obtain ⟨hs71, hwx⟩ := hcut
    subst hs71 hwx
    go_upto_if 71 with fail
    by_cases hd : k < n ∧ e' = 0
    · rw [decide_eq_true hd]
      obtain ⟨hlt, rfl⟩ := hd
      have hst : zs.length ≤ 400 ∧ okTo zs k ∧ S = tx (packB (zs.take k)) := by
        rcases HA2.out.1 with h | h
        · exact h.2
        · exact absurd rfl h.1
      have HSN := hidW hst
      have hltz : (k : Int) < (n : Int) := by omega
      have hin1 : ¬ ((k : Int) < 0) := by omega
      have hlz : k < zs.length := by rw [← HN.out.1]; exact hlt
      obtain ⟨g, off, rfl, hgl, hrg, hx11⟩ := (HVV.out.below (by rw [← HX.out]; exact (HC.out wc HA2.out.2).1)).at hlz
      obtain ⟨x, hx⟩ : ∃ x, x = zs[k]! := ⟨_, rfl⟩
      have HD0 : Hid (∀ W, Below T V2 W → W.rangeAt g (off + k * 11) (iL x)) := by
        intro W hW
        obtain ⟨g2, o2, h2, _, h3, _⟩ := (HVV.out.below (by rw [← HX.out]; exact (HC.out W hW).1)).at hlz
        cases h2
        rw [hx]; exact h3
      rw [← hx] at hx11
      have HXK := hidW hx
      have HX11 := hidW hx11
      obtain ⟨d0, d1, d2, d3, d4, d5, d6, d7, d8, d9, d10, hxx⟩ := list11' hx11
      have hcx : cV x = .agg #[.int .i64 d0, .int .i64 d1, .int .i64 d2, .int .i64 d3, .int .i64 d4, .int .i64 d5, .int .i64 d6, .int .i64 d7, .int .i64 d8, .int .i64 d9, .int .i64 d10] := by rw [hxx]; rfl
      rw [hxx] at HD0
      have HD : Hid (∀ W, Below T V2 W → (W.cell? ⟨g, off + k * 11, none⟩ = some (.int .i64 d0) ∧ W.cell? ⟨g, off + k * 11 + 1, none⟩ = some (.int .i64 d1) ∧ W.cell? ⟨g, off + k * 11 + 2, none⟩ = some (.int .i64 d2) ∧ W.cell? ⟨g, off + k * 11 + 3, none⟩ = some (.int .i64 d3) ∧ W.cell? ⟨g, off + k * 11 + 4, none⟩ = some (.int .i64 d4) ∧ W.cell? ⟨g, off + k * 11 + 5, none⟩ = some (.int .i64 d5) ∧ W.cell? ⟨g, off + k * 11 + 6, none⟩ = some (.int .i64 d6) ∧ W.cell? ⟨g, off + k * 11 + 7, none⟩ = some (.int .i64 d7) ∧ W.cell? ⟨g, off + k * 11 + 8, none⟩ = some (.int .i64 d8) ∧ W.cell? ⟨g, off + k * 11 + 9, none⟩ = some (.int .i64 d9) ∧ W.cell? ⟨g, off + k * 11 + 10, none⟩ = some (.int .i64 d10))) := fun W hW => by
        have hrg := HD0.out W hW
        exact ⟨by simpa using hrg 0 _ rfl, hrg 1 _ rfl, hrg 2 _ rfl, hrg 3 _ rfl, hrg 4 _ rfl, hrg 5 _ rfl, hrg 6 _ rfl, hrg 7 _ rfl, hrg 8 _ rfl, hrg 9 _ rfl, hrg 10 _ rfl⟩
      have hwk : wrap64 ((k : Int) + 1) = ((k + 1 : Nat) : Int) := by have := HN.out; unfold wrap64; omega
      have HK := hidW (And.intro hwk (And.intro hlt hg))
      obtain ⟨F, hF⟩ : ∃ F, F = cchk x := ⟨_, rfl⟩
      have HF := hidW hF
      have HRX : Hid (∀ W, Below T V2 W → Calls Tryd.prog 4 #[.agg #[.int .i64 d0, .int .i64 d1, .int .i64 d2, .int .i64 d3, .int .i64 d4, .int .i64 d5, .int .i64 d6, .int .i64 d7, .int .i64 d8, .int .i64 d9, .int .i64 d10]] W fun e w' => e = .returned (.int .i64 F) ∧ Below T V2 w') := fun W hW => by
        rw [← hcx, hF]; exact on_top HT.out hW (rcommand_any x hx11 W)
      obtain ⟨b, hb⟩ : ∃ b, b = tx (enc x) := ⟨_, rfl⟩
      have HRY : Hid (F = 0 → ∀ W, Below T V2 W → Calls Tryd.prog 7 #[.agg #[.int .i64 d0, .int .i64 d1, .int .i64 d2, .int .i64 d3, .int .i64 d4, .int .i64 d5, .int .i64 d6, .int .i64 d7, .int .i64 d8, .int .i64 d9, .int .i64 d10]] W fun e w' => e = .returned (.string b) ∧ Below T V2 w') := fun h0 W hW => by
        rw [← hcx, hb]; exact on_top HT.out hW (rbytes_any x hx11 (by rw [← hF]; exact h0) W)
      have HBQ := hidW hb
      clear hst hx hx11 hxx hcx hrg hgl hwk hF hb HD0 hk hg hlz
      obtain ⟨a0, a1, a2, a3, a4, a5, a6, a7, a8, a9, a10⟩ := HD.out wc HA2.out.2
      go_upto_if 80 with (go_at_call 4; refine (HRX.out _ HA2.out.2).mono ?_; rintro e w10 ⟨rfl, hb10⟩)
      clear a0 a1 a2 a3 a4 a5 a6 a7 a8 a9 a10
      have HB10 := hidW hb10
      clear hb10
      by_cases hF0 : F = 0
      rotate_left
      · have hF0b : (F == 0) = false := by simpa using hF0
        have HFN : Hid (Stn zs (k + 1) F S) := by
          refine .inr ⟨hF0, ?_⟩
          have hlz : k < zs.length := by rw [← HN.out.1]; exact hlt
          rw [packE, if_neg (by have := HSN.out.1; omega), ← HSN.out.2.1.2, firstE_drop hlz, ← HXK.out, ← HF.out, if_neg hF0]
        clear hF0 hlt
        go_wp2_with fail
        go_roundg (n - (k + 1))
        case measure => have := HK.out; omega
        case rel => exact ⟨k + 1, F, S, rfl, rfl, by first | exact congrArg (Value.int .i64) HK.out.1 | go_num, HK.out.2.1, Nat.le_refl _, HFN.out, HB10.out⟩
      · have HRY2 := hidW (HRY.out hF0)
        have hlz : k < zs.length := by rw [← HN.out.1]; exact hlt
        have HFN : Hid (cchk x = 0) := by rw [← HF.out]; exact hidW hF0
        subst hF0
        obtain ⟨m, hm, hm18⟩ : ∃ m : Nat, b.size = m ∧ m ≤ 18 := ⟨_, rfl, by rw [HBQ.out, tx_size, enc_length HX11.out HFN.out]; exact lenE_small _⟩
        have HM := hidW (And.intro hm hm18)
        have hmz : (b.size : Int) = (m : Int) := by rw [hm]
        obtain ⟨a0, a1, a2, a3, a4, a5, a6, a7, a8, a9, a10⟩ := HD.out w10 HB10.out
        clear hlz hlt hm
        go_upto_region 24 with (go_at_call 7; refine (HRY2.out _ HB10.out).mono ?_; rintro e w11 ⟨rfl, hb11⟩)
        clear a0 a1 a2 a3 a4 a5 a6 a7 a8 a9 a10
        have hcv := Lib.run_convert_whole (P := Tryd.prog) (w11.alloc (.cells #[.int .u8 (m : Int)] 5)) 39 5 9 (by kernel_rfl) (by kernel_rfl) (by kernel_rfl) w11.heap.size 0 (tx [UInt8.ofNat m]) (one_byte w11 m (by have := HM.out.2; omega)) 1
        rw [tx_size, List.length_singleton] at hcv
        have HB11 : Hid (Below T V2 (w11.alloc (.cells #[.int .u8 (m : Int)] 5))) := hidW (hb11.alloc (by rw [HT.out] at hb11 ⊢; exact hb11.size) _)
        have HFS : Hid (Stn zs (k + 1) 0 (S ++ tx [UInt8.ofNat m] ++ b)) := by
          have hlz : k < zs.length := by rw [← HN.out.1]; exact HK.out.2.1
          have hen : (enc x).length = m := by rw [← HM.out.1, HBQ.out, tx_size]
          refine .inl ⟨rfl, HSN.out.1, okTo_succ hlz HSN.out.2.1 (by rw [← HXK.out]; exact HFN.out), ?_⟩
          rw [HSN.out.2.2, HBQ.out, packB_take hlz, ← HXK.out, tx_append, tx_append, one, hen, List.append_assoc]
          rfl
        have hsz : S.size ≤ 7600 := by
          have h1 := packB_length (zs.take k) (fun y hy => HVV.out.1 y (List.mem_of_mem_take hy)) HSN.out.2.1.1
          rw [List.length_take] at h1
          rw [HSN.out.2.2, tx_size]
          have := HSN.out.1
          omega
        have hsz2 : (S ++ tx [UInt8.ofNat m]).size ≤ 7601 := by
          rw [HSN.out.2.2, tx_append, tx_size, List.length_append, List.length_singleton]
          rw [HSN.out.2.2, tx_size] at hsz
          omega
        have hc1 : ¬ 9223372036854775807 < S.size + (tx [UInt8.ofNat m]).size := by rw [tx_size, List.length_singleton]; omega
        have hc2 : ¬ 9223372036854775807 < (S ++ tx [UInt8.ofNat m]).size + b.size := by rw [HM.out.1]; have := HM.out.2; omega
        generalize tx [UInt8.ofNat m] = tu at *
        clear hb11 hsz hsz2
        go_wp2_with fail
        go_roundg (n - (k + 1))
        case measure => have := HK.out; omega
        case rel => exact ⟨k + 1, 0, _, rfl, rfl, by first | exact congrArg (Value.int .i64) HK.out.1 | go_num, HK.out.2.1, Nat.le_refl _, HFS.out, HB11.out⟩
    · rw [decide_eq_false hd]
      obtain ⟨P, hP⟩ : ∃ P, P = packE zs := ⟨_, rfl⟩
      obtain ⟨pS, hpS⟩ : ∃ p, p = packS zs := ⟨_, rfl⟩
      have hex : e' = P ∧ (P = 0 → S = pS) ∧ (¬ P = 0 → pS = ⟨#[]⟩) := by
        rcases HA2.out.1 with ⟨h0, h1, h2, h3⟩ | ⟨h0, h1⟩
        · have hke : k = n := by
            rcases Nat.lt_or_ge k n with h | h
            · exact absurd ⟨h, h0⟩ hd
            · omega
          have htk : zs.take k = zs := List.take_of_length_le (by rw [hke, HN.out.1]; exact Nat.le_refl _)
          have hf : firstE zs = 0 := by have := h2.1; rw [htk] at this; exact this
          have hp0 : P = 0 := by rw [hP, packE, if_neg (by omega), hf]
          exact ⟨by rw [h0, hp0], fun _ => by rw [h3, htk, hpS, packS, if_pos (by rw [← hP]; exact hp0)], fun h => absurd hp0 h⟩
        · exact ⟨by rw [h1, hP], fun h => absurd (h1.trans (hP.symm.trans h)) h0, fun h => by rw [hpS, packS, if_neg (by rw [← hP]; exact h)]⟩
      obtain ⟨he, hx1, hx2⟩ := hex
      have HPK0 : Hid (∀ W, Below T V2 W → Calls Tryd.prog 11 #[.slice q n c] W fun e w' => e = .returned (.tuple #[.string pS, errV P]) ∧ Below T V2 w') := fun W hW => by
        rw [hP, hpS]
        exact on_top HT.out hW (pack_any _ zs W (HVV.out.below (by rw [← HX.out]; exact (HC.out W hW).1)))
      have HEP0 := hidW (HTE2.out P)
      obtain ⟨ep, hep⟩ : ∃ ep, ep = errV P := ⟨_, rfl⟩
      have HPK : Hid (∀ W, Below T V2 W → Calls Tryd.prog 11 #[.slice q n c] W fun e w' => e = .returned (.tuple #[.string pS, ep]) ∧ Below T V2 w') := by rw [hep]; exact HPK0
      have HEP : Hid (∀ W, Below T V2 W → Calls Tryd.prog 5 #[ep, .int .i64 P] W fun ev w' => ev = .returned (.bool true) ∧ Below T V2 w') := by rw [hep]; exact HEP0
      have HTR : Hid (∀ k W, Below T V2 W → Calls Tryd.prog 5 #[errV k, .int .i64 k] W fun ev w' => ev = .returned (.bool true) ∧ Below W.heap.size W w') := fun k W hW =>
        terr k w HLL.out W (by rw [← HX.out]; exact (HC.out W hW).1)
      have hpp : (pS.toList == pS.toList) = true := beq_self_eq_true _
      have hbb : (bS.toList == bS.toList) = true := beq_self_eq_true _
      have heqz : ∀ W, (binOp .eql 25 (cV z) (cV z)).run Tryd.prog W = .ok (.bool true) W := fun W => (run_eql_cmd z z HZL.out HZL.out W).trans (by simp)
      rw [HZZ.out.2] at heqz
      have HW2 := hidW HA2.out.2
      have HSZ : Hid (t.size ≤ 9223372036854775807) := by have := HTS.out.2; exact hidW (by omega)
      have HFW : Hid (∀ W W', Below T V2 W → Below W.heap.size W W' → Below T V2 W') := fun W W' h h' => h.trans (h'.mono (by rw [HT.out] at h ⊢; exact h.size))
      clear HPK0 HEP0 hep hP hpS hd hk hg HA2 HK4 HB9 HTE2 HE HCM HV HKK
      subst he
      have HUU : Hid (∃ U, (∀ W, Calls Tryd.prog 12 #[.string t] W fun e w' => RunpV w' e U ∧ Below W.heap.size W w') ∧ (∀ W, Calls Tryd.prog 13 #[.string t] W fun e w' => UnpV w' e U ∧ Below W.heap.size W w')) :=
        ⟨_, fun W => runpack_any t HTS.out.2 W, fun W => unpack_any t HSZ.out W⟩
      by_cases hp : e' = 0
      · have hSp := hx1 hp
        clear hx1 hx2
        subst hSp
        go_upto_region 27 with fail
        clear hp
        go_upto_region 28 with (go_at_call 11; refine (HPK.out _ HW2.out).mono ?_; rintro e w12 ⟨rfl, hb12⟩)
        have HB12 := hidW hb12
        clear hb12 HPK HW2
        go_upto_region 29 with (go_at_call 5; refine (HEP.out _ HB12.out).mono ?_; rintro e w13 ⟨rfl, hb13⟩)
        have HB13 := hidW hb13
        clear hb13 HEP HB12
        obtain ⟨U, HU1, HU2⟩ := HUU.out
        clear HUU
        cases U with
        | none =>
          have HR : Hid (∀ W, Calls Tryd.prog 12 #[.string t] W fun e w' => e = .returned (.tuple #[.slice none 0 0, .bool false]) ∧ Below W.heap.size W w') := HU1
          have HQ : Hid (∀ W, Calls Tryd.prog 13 #[.string t] W fun e w' => e = .returned (.tuple #[.slice none 0 0, .iface 49 (.int .i64 2)]) ∧ Below W.heap.size W w') := HU2
          have HE5 : Hid (∀ W, Below T V2 W → Calls Tryd.prog 5 #[.iface 49 (.int .i64 2), .int .i64 2] W fun ev w' => ev = .returned (.bool true) ∧ Below W.heap.size W w') := fun W hW => by
            have := HTR.out 2 W hW
            rw [errV_of (by decide)] at this
            exact this
          clear HU1 HU2 HTR
          go_upto_region 30 with (go_at_call 12; refine (HR.out _).mono ?_; rintro e w14 ⟨rfl, hb14⟩)
          have HB14 := hidW (HFW.out _ _ HB13.out hb14)
          clear hb14
          go_upto_region 35 with (go_at_call 13; refine (HQ.out _).mono ?_; rintro e w15 ⟨rfl, hb15⟩)
          have HB15 := hidW (HFW.out _ _ HB14.out hb15)
          clear hb15
          go_upto_region 36 with (go_at_call 5; refine (HE5.out _ HB15.out).mono ?_; rintro e w16 ⟨rfl, hb16⟩)
          have HB16 := hidW (HFW.out _ _ HB15.out hb16)
          have HSM := hidW (commands_same (.slice none 0 0) (.slice none 0 0) [] w16 (cx_nil w16) (cx_nil w16))
          clear hb16
          go_upto_region 37 with (go_at_call 14; refine HSM.out.mono ?_; rintro e w17 ⟨rfl, hb17⟩)
          have HB17 := hidW (HFW.out _ _ HB16.out hb17)
          clear hb17 HSM
          obtain ⟨g17, ⟨a0, a1, a2, a3, a4, a5, a6, a7, a8, a9, a10⟩, y0, y1, y2, y3, y4, y5, y6, y7, y8, y9, y10⟩ := HC.out _ HB17.out
          go_wp2_with fail
          go_ret
          exact ⟨rfl, g17⟩
        | some l =>
          have HR : Hid (∀ W, Calls Tryd.prog 12 #[.string t] W fun e w' => (∃ v, e = .returned (.tuple #[v, .bool true]) ∧ CX w' v l) ∧ Below W.heap.size W w') := HU1
          have HQ : Hid (∀ W, Calls Tryd.prog 13 #[.string t] W fun e w' => (∃ v, e = .returned (.tuple #[v, .nilIface]) ∧ CX w' v l) ∧ Below W.heap.size W w') := HU2
          have HE5 : Hid (∀ W, Below T V2 W → Calls Tryd.prog 5 #[.nilIface, .int .i64 0] W fun ev w' => ev = .returned (.bool true) ∧ Below W.heap.size W w') := fun W hW => by
            have := HTR.out 0 W hW
            rw [errV_zero] at this
            exact this
          clear HU1 HU2 HTR
          go_upto_region 30 with (go_at_call 12; refine (HR.out _).mono ?_; rintro e w14 ⟨⟨v14, rfl, hx14⟩, hb14⟩)
          have HB14 := hidW (HFW.out _ _ HB13.out hb14)
          have HX14 := hidW hx14
          clear hb14 hx14
          go_upto_region 35 with (go_at_call 13; refine (HQ.out _).mono ?_; rintro e w15 ⟨⟨v15, rfl, hx15⟩, hb15⟩)
          have HB15 := hidW (HFW.out _ _ HB14.out hb15)
          have HX15 := hidW (And.intro (HX14.out.below hb15) hx15)
          clear hb15 hx15
          go_upto_region 36 with (go_at_call 5; refine (HE5.out _ HB15.out).mono ?_; rintro e w16 ⟨rfl, hb16⟩)
          have HB16 := hidW (HFW.out _ _ HB15.out hb16)
          have HSM := hidW (commands_same v15 v14 l w16 (HX15.out.2.below hb16) (HX15.out.1.below hb16))
          clear hb16
          go_upto_region 37 with (go_at_call 14; refine HSM.out.mono ?_; rintro e w17 ⟨rfl, hb17⟩)
          have HB17 := hidW (HFW.out _ _ HB16.out hb17)
          clear hb17 HSM
          obtain ⟨g17, ⟨a0, a1, a2, a3, a4, a5, a6, a7, a8, a9, a10⟩, y0, y1, y2, y3, y4, y5, y6, y7, y8, y9, y10⟩ := HC.out _ HB17.out
          go_wp2_with fail
          go_ret
          exact ⟨rfl, g17⟩
      · have hSp := hx2 hp
        have hpb : (e' == 0) = false := by simpa using hp
        clear hx1 hx2
        subst hSp
        go_upto_region 27 with fail
        clear hp
        go_upto_region 28 with (go_at_call 11; refine (HPK.out _ HW2.out).mono ?_; rintro e w12 ⟨rfl, hb12⟩)
        have HB12 := hidW hb12
        clear hb12 HPK HW2
        go_upto_region 29 with (go_at_call 5; refine (HEP.out _ HB12.out).mono ?_; rintro e w13 ⟨rfl, hb13⟩)
        have HB13 := hidW hb13
        clear hb13 HEP HB12
        obtain ⟨U, HU1, HU2⟩ := HUU.out
        clear HUU
        cases U with
        | none =>
          have HR : Hid (∀ W, Calls Tryd.prog 12 #[.string t] W fun e w' => e = .returned (.tuple #[.slice none 0 0, .bool false]) ∧ Below W.heap.size W w') := HU1
          have HQ : Hid (∀ W, Calls Tryd.prog 13 #[.string t] W fun e w' => e = .returned (.tuple #[.slice none 0 0, .iface 49 (.int .i64 2)]) ∧ Below W.heap.size W w') := HU2
          have HE5 : Hid (∀ W, Below T V2 W → Calls Tryd.prog 5 #[.iface 49 (.int .i64 2), .int .i64 2] W fun ev w' => ev = .returned (.bool true) ∧ Below W.heap.size W w') := fun W hW => by
            have := HTR.out 2 W hW
            rw [errV_of (by decide)] at this
            exact this
          clear HU1 HU2 HTR
          go_upto_region 30 with (go_at_call 12; refine (HR.out _).mono ?_; rintro e w14 ⟨rfl, hb14⟩)
          have HB14 := hidW (HFW.out _ _ HB13.out hb14)
          clear hb14
          go_upto_region 35 with (go_at_call 13; refine (HQ.out _).mono ?_; rintro e w15 ⟨rfl, hb15⟩)
          have HB15 := hidW (HFW.out _ _ HB14.out hb15)
          clear hb15
          go_upto_region 36 with (go_at_call 5; refine (HE5.out _ HB15.out).mono ?_; rintro e w16 ⟨rfl, hb16⟩)
          have HB16 := hidW (HFW.out _ _ HB15.out hb16)
          have HSM := hidW (commands_same (.slice none 0 0) (.slice none 0 0) [] w16 (cx_nil w16) (cx_nil w16))
          clear hb16
          go_upto_region 37 with (go_at_call 14; refine HSM.out.mono ?_; rintro e w17 ⟨rfl, hb17⟩)
          have HB17 := hidW (HFW.out _ _ HB16.out hb17)
          clear hb17 HSM
          obtain ⟨g17, ⟨a0, a1, a2, a3, a4, a5, a6, a7, a8, a9, a10⟩, y0, y1, y2, y3, y4, y5, y6, y7, y8, y9, y10⟩ := HC.out _ HB17.out
          go_wp2_with fail
          go_ret
          exact ⟨rfl, g17⟩
        | some l =>
          have HR : Hid (∀ W, Calls Tryd.prog 12 #[.string t] W fun e w' => (∃ v, e = .returned (.tuple #[v, .bool true]) ∧ CX w' v l) ∧ Below W.heap.size W w') := HU1
          have HQ : Hid (∀ W, Calls Tryd.prog 13 #[.string t] W fun e w' => (∃ v, e = .returned (.tuple #[v, .nilIface]) ∧ CX w' v l) ∧ Below W.heap.size W w') := HU2
          have HE5 : Hid (∀ W, Below T V2 W → Calls Tryd.prog 5 #[.nilIface, .int .i64 0] W fun ev w' => ev = .returned (.bool true) ∧ Below W.heap.size W w') := fun W hW => by
            have := HTR.out 0 W hW
            rw [errV_zero] at this
            exact this
          clear HU1 HU2 HTR
          go_upto_region 30 with (go_at_call 12; refine (HR.out _).mono ?_; rintro e w14 ⟨⟨v14, rfl, hx14⟩, hb14⟩)
          have HB14 := hidW (HFW.out _ _ HB13.out hb14)
          have HX14 := hidW hx14
          clear hb14 hx14
          go_upto_region 35 with (go_at_call 13; refine (HQ.out _).mono ?_; rintro e w15 ⟨⟨v15, rfl, hx15⟩, hb15⟩)
          have HB15 := hidW (HFW.out _ _ HB14.out hb15)
          have HX15 := hidW (And.intro (HX14.out.below hb15) hx15)
          clear hb15 hx15
          go_upto_region 36 with (go_at_call 5; refine (HE5.out _ HB15.out).mono ?_; rintro e w16 ⟨rfl, hb16⟩)
          have HB16 := hidW (HFW.out _ _ HB15.out hb16)
          have HSM := hidW (commands_same v15 v14 l w16 (HX15.out.2.below hb16) (HX15.out.1.below hb16))
          clear hb16
          go_upto_region 37 with (go_at_call 14; refine HSM.out.mono ?_; rintro e w17 ⟨rfl, hb17⟩)
          have HB17 := hidW (HFW.out _ _ HB16.out hb17)
          clear hb17 HSM
          obtain ⟨g17, ⟨a0, a1, a2, a3, a4, a5, a6, a7, a8, a9, a10⟩, y0, y1, y2, y3, y4, y5, y6, y7, y8, y9, y10⟩ := HC.out _ HB17.out
          go_wp2_with fail
          go_ret
          exact ⟨rfl, g17⟩
end Go.Proofs.YtndkabnmffgebaaDoor.wir
