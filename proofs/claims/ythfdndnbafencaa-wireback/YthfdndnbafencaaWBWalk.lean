/- The law WireBack, walked. -/
import Derived.Test.YthfdndnbafencaaWirPak
import Derived.Test.YthfdndnbafencaaWirSame
import Derived.Lib.ConvBytes
namespace Go.Proofs.Ythfdndnbafencaa.wir
open Go.RowKit
open Go.Proofs.Ythfdndnbafencaa.ord (errV errV_zero errV_of)

theorem err_eql (E : Int) (W : World) : (binOp .eql 28 (errV E) .nilIface).run Try.prog W = .ok (.bool (decide (E = 0))) W := by
  by_cases h : E = 0
  · subst h; rw [errV_zero]; simp [go_sem]
  · rw [errV_of h]; simp [go_sem, h]
theorem err_neq (E : Int) (W : World) : (binOp .neq 28 (errV E) .nilIface).run Try.prog W = .ok (.bool (!decide (E = 0))) W := by
  by_cases h : E = 0
  · subst h; rw [errV_zero]; simp [go_sem]
  · rw [errV_of h]; simp [go_sem, h]
theorem err_guard (op : BinOp) (x : Operand) (v : Value) (E : Int) (W : World) : (eqGuard op 28 x (.const v) (errV E) .nilIface).run Try.prog W = .ok () W := by
  by_cases h : E = 0
  · subst h; rw [errV_zero]; cases op <;> simp [eqGuard]
  · rw [errV_of h]; cases op <;> simp [eqGuard]
theorem fact258 : cchk [2, 258, 0, 0, 0, 0, 0, 0, 0, 0, 0] = 0 := by decide
theorem bytes258 : tx (enc [2, 258, 0, 0, 0, 0, 0, 0, 0, 0, 0]) = ⟨#[2, 1, 2, 5]⟩ := by decide

theorem firstE_nn {l : List (List Int)} (h : packE l = 0) : l.length ≤ 400 ∧ firstE l = 0 := by
  unfold packE at h
  split at h
  · cases h
  · exact ⟨by omega, h⟩
theorem pack_back {l : List (List Int)} (hl : ∀ x ∈ l, x.length = 11) (h : packE l = 0) : unp (packB l).length (packB l) 0 = some l := by
  obtain ⟨h1, h2⟩ := firstE_nn h
  refine unp_pack l _ 0 hl h2 (by omega) ?_
  clear h1 h h2 hl
  induction l with
  | nil => simp
  | cons a r ih =>
    have e : packB (a :: r) = UInt8.ofNat (enc a).length :: (enc a ++ packB r) := rfl
    rw [e, List.length_cons, List.length_cons, List.length_append]
    omega
theorem pack_of {b : List UInt8} {l : List (List Int)} (h : unp b.length b 0 = some l) : packE l = 0 ∧ packB l = b := by
  obtain ⟨h1, h2, h3, h4⟩ := unp_sound _ _ 0 l (by omega) h
  exact ⟨by rw [packE, if_neg (by omega), h3], h1⟩

theorem below_bytes (w : World) (e : TypeId) (s : ByteArray) : Below w.heap.size w (Lib.bytesWorld w e s) :=
  ⟨rfl, rfl, rfl, by rw [Lib.bytesWorld_size]; omega, fun k hk => Lib.bytesWorld_at_old w e s k hk⟩
theorem bytes_frozen (w : World) (e : TypeId) (s : ByteArray) {k : Nat} (hk : k < s.size) : (Lib.bytesWorld w e s).frozen? ⟨w.heap.size, k, none⟩ = false := by
  have hle : s.size ≤ (Lib.bytesCells w e s).size := by
    unfold Lib.bytesCells
    rw [Array.size_append, Array.size_map]
    exact Nat.le_add_right _ _
  simp only [World.frozen?, Lib.bytesWorld_at_new]
  simp
  omega
theorem bytes_cell (w : World) (e : TypeId) (s : ByteArray) {k : Nat} (hk : k < s.size) : (Lib.bytesWorld w e s).cell? ⟨w.heap.size, k, none⟩ = some (.int .u8 (((bl s)[k]!).toNat : Int)) := by
  rw [Lib.bytesWorld_cell w e s k hk]
  have : s.data.toList.getD k 0 = (bl s)[k]! := by
    rw [getW _ _ (by rw [bl_length]; exact hk)]
    simp only [List.getD, bl]
    rw [List.getElem?_eq_getElem (by have := bl_length s; unfold bl at this; omega)]
    rfl
  rw [this]
theorem bytes_set (w : World) (g : Nat) (s : ByteArray) (k : Nat) (u : UInt8) (hk : k < s.size) (h : ∀ i, i < s.size → w.cell? ⟨g, i, none⟩ = some (.int .u8 (((bl s)[i]!).toNat : Int))) :
    Lib.Bytes (w.setCell ⟨g, k, none⟩ (.int .u8 (u.toNat : Int))) g 0 (tx ((bl s).set k u)) := by
  intro i hi
  have hil : i < s.size := by rw [tx_size, List.length_set, bl_length] at hi; exact hi
  have e : (tx ((bl s).set k u))[i] = ((bl s).set k u)[i]! := by
    rw [bl_get hi, bl_tx]
  rw [Nat.zero_add, e, getW _ _ (by rw [List.length_set, bl_length]; exact hil), List.getElem_set]
  by_cases hik : k = i
  · subst hik
    rw [if_pos rfl]
    exact World.cell?_setCell_same _ _ _ (h k hk)
  · rw [if_neg hik, World.cell?_setCell_other _ _ _ _ (fun h => hik (by cases h; rfl)), h i hil, getW _ _ (by rw [bl_length]; exact hil)]

set_option maxRecDepth 100000 in
set_option maxHeartbeats 1000000 in
theorem back_walk (xs : List Int) (hl : xs.length = 11) (v : Value) (zs : List (List Int)) (s : ByteArray) (hs : s.size ≤ 9223372036854775807) (at' tt : Int) (ht : 0 ≤ tt ∧ tt ≤ 255) (w : World) (hv : CX w v zs) :
    Calls Try.prog 3 #[cV xs, v, .string s, .int .i64 at', .int .u8 tt] w fun e w' => e = .returned (.bool true) ∧ Below w.heap.size w w' := by
  have HVV := hidW hv
  obtain ⟨X, hX⟩ : ∃ X, X = w.heap.size := ⟨_, rfl⟩
  obtain ⟨V, hV⟩ : ∃ V, V = w.alloc (.cells (iL xs).toArray 25) := ⟨_, rfl⟩
  have HV : Hid (Below X w V ∧ Cmd V X xs ∧ V.heap.size = X + 1) := by
    subst hV hX
    exact ⟨(Below.refl _ _).alloc (Nat.le_refl _) _, heap_alloc_new _ _, by simp⟩
  have HX := hidW hX
  have HF : Hid (∀ W, Calls Try.prog 5 #[.agg #[.int .i64 2, .int .i64 258, .int .i64 0, .int .i64 0, .int .i64 0, .int .i64 0, .int .i64 0, .int .i64 0, .int .i64 0, .int .i64 0, .int .i64 0]] W fun e w' => e = .returned (.tuple #[.string ⟨#[2, 1, 2, 5]⟩, .nilIface]) ∧ Below W.heap.size W w') := fun W => by
    rw [← bytes258]; exact command_good [2, 258, 0, 0, 0, 0, 0, 0, 0, 0, 0] rfl W fact258
  obtain ⟨q, c, rfl, hnm⟩ := hv.form
  obtain ⟨n, hN⟩ : ∃ n, n = zs.length := ⟨_, rfl⟩
  have HN := hidW (And.intro hN hnm)
  rw [← hN] at HVV
  rw [← hX, ← hN]
  obtain ⟨c0, c1, c2, c3, c4, c5, c6, c7, c8, c9, c10, hxs⟩ := list11' hl
  have hcv : cV xs = .agg #[.int .i64 c0, .int .i64 c1, .int .i64 c2, .int .i64 c3, .int .i64 c4, .int .i64 c5, .int .i64 c6, .int .i64 c7, .int .i64 c8, .int .i64 c9, .int .i64 c10] := by rw [hxs]; rfl
  have hiv : (iL xs).toArray = #[.int .i64 c0, .int .i64 c1, .int .i64 c2, .int .i64 c3, .int .i64 c4, .int .i64 c5, .int .i64 c6, .int .i64 c7, .int .i64 c8, .int .i64 c9, .int .i64 c10] := by rw [hxs]; rfl
  rw [hiv] at hV
  have HCM := hidW HV.out.2.1
  rw [hxs] at HCM
  have HB : Hid (∀ w1, Below V.heap.size V w1 → (Below X w w1 ∧ w1.cell? ⟨X, 0, none⟩ = some (.int .i64 c0) ∧ w1.cell? ⟨X, 1, none⟩ = some (.int .i64 c1) ∧ w1.cell? ⟨X, 2, none⟩ = some (.int .i64 c2) ∧ w1.cell? ⟨X, 3, none⟩ = some (.int .i64 c3) ∧ w1.cell? ⟨X, 4, none⟩ = some (.int .i64 c4) ∧ w1.cell? ⟨X, 5, none⟩ = some (.int .i64 c5) ∧ w1.cell? ⟨X, 6, none⟩ = some (.int .i64 c6) ∧ w1.cell? ⟨X, 7, none⟩ = some (.int .i64 c7) ∧ w1.cell? ⟨X, 8, none⟩ = some (.int .i64 c8) ∧ w1.cell? ⟨X, 9, none⟩ = some (.int .i64 c9) ∧ w1.cell? ⟨X, 10, none⟩ = some (.int .i64 c10))) :=
    fun w1 h => ⟨HV.out.1.trans (h.mono (by have := HCM.out.lt; omega)), (HCM.out.below h).row⟩
  have HCO : Hid (∀ W, Calls Try.prog 5 #[.agg #[.int .i64 c0, .int .i64 c1, .int .i64 c2, .int .i64 c3, .int .i64 c4, .int .i64 c5, .int .i64 c6, .int .i64 c7, .int .i64 c8, .int .i64 c9, .int .i64 c10]] W fun e w' => e = .returned (.tuple #[.string (cmdS xs), errV (cchk xs)]) ∧ Below W.heap.size W w') := by
    rw [← hcv]; exact fun W => command_any xs hl W
  have HXS := hidW (And.intro hxs hl)
  have HCV := hidW hcv
  obtain ⟨E, hE⟩ : ∃ E, E = cchk xs := ⟨_, rfl⟩
  obtain ⟨bS, hbS⟩ : ∃ b, b = cmdS xs := ⟨_, rfl⟩
  have HE := hidW (And.intro hE hbS)
  rw [← hE, ← hbS] at HCO
  rw [hcv]
  have q1 := err_eql E
  have q3 := fun (x : Operand) (W : World) => err_guard .eql x .nilIface E W
  obtain ⟨ev, hev⟩ : ∃ ev, ev = errV E := ⟨_, rfl⟩
  rw [← hev] at HCO q1 q3
  clear hE hbS hv hxs hcv hiv hl hN hnm hev
  go_enter Try.func3, Try.ntmps3
  go_upto_region 1 with fail
  simp only [← hX]
  simp only [← hV]
  clear hX hV
  go_upto_region 4 with (go_at_call 5; refine (HF.out _).mono ?_; rintro e w1 ⟨rfl, hb1⟩)
  obtain ⟨g, a0, a1, a2, a3, a4, a5, a6, a7, a8, a9, a10⟩ := HB.out _ hb1
  have HG := hidW (And.intro g hb1)
  clear g hb1 HF
  go_upto_if 43 with (go_at_call 5; refine (HCO.out _).mono ?_; rintro e w2 ⟨rfl, hb2⟩)
  have HG2 : Hid (Below V.heap.size V w2) := HG.out.2.trans (hb2.mono HG.out.2.size)
  clear hb2 a0 a1 a2 a3 a4 a5 a6 a7 a8 a9 a10
  go_cut [15, 16, 17, 18, 19] from 43 to 89 (fun s15 s16 s17 s18 s19 wx => Aside (Below X w wx))
  case first =>
    by_cases hE0 : E = 0
    rotate_left
    · have hd : decide (E = 0) = false := decide_eq_false hE0
      rw [hd]
      have HW := hidW (HB.out _ HG2.out).1
      clear q1 q3 hd hE0
      go_wp2_with fail
      go_meet
      case rel => exact HW.out
    · have hd : decide (E = 0) = true := decide_eq_true hE0
      rw [hd]
      have hck : cchk xs = 0 := by rw [← HE.out.1]; exact hE0
      have hbe : bS = tx (enc xs) := by rw [HE.out.2, cmdS, if_pos hck]
      have HBE := hidW (And.intro hbe hck)
      have hbsz : bS.size ≤ 18 := by rw [hbe, tx_size, enc_length HXS.out.2 hck]; exact lenE_small _
      have HBZ := hidW hbsz
      have HRC : Hid (∀ W, Calls Try.prog 6 #[.string bS] W fun e w' => e = .returned (.tuple #[.agg #[.int .i64 c0, .int .i64 c1, .int .i64 c2, .int .i64 c3, .int .i64 c4, .int .i64 c5, .int .i64 c6, .int .i64 c7, .int .i64 c8, .int .i64 c9, .int .i64 c10], .nilIface]) ∧ Below W.heap.size W w') := fun W => by
        have := readc_walk bS (by omega) W
        rw [hbe, bl_tx, rdC_enc HXS.out.2 hck] at this
        rw [hbe, ← HCV.out]
        exact this
      have heqq : ∀ W, (binOp .neq 25 (cV xs) (cV xs)).run Try.prog W = .ok (.bool false) W := fun W => (run_neq_cmd xs xs HXS.out.2 HXS.out.2 W).trans (by simp)
      rw [HCV.out] at heqq
      clear q1 q3 hd hE0 hck hbe hbsz
      go_upto_region 7 with (go_at_call 6; refine (HRC.out _).mono ?_; rintro e w3 ⟨rfl, hb3⟩)
      obtain ⟨Y, hY⟩ : ∃ Y, Y = w3.heap.size := ⟨_, rfl⟩
      obtain ⟨V4, hV4⟩ : ∃ V4, V4 = w3.alloc (.cells #[.int .i64 c0, .int .i64 c1, .int .i64 c2, .int .i64 c3, .int .i64 c4, .int .i64 c5, .int .i64 c6, .int .i64 c7, .int .i64 c8, .int .i64 c9, .int .i64 c10] 25) := ⟨_, rfl⟩
      have HV4 : Hid (Below V.heap.size V V4 ∧ Cmd V4 Y xs) := by
        refine ⟨?_, ?_⟩
        · rw [hV4]; exact (HG2.out.trans (hb3.mono HG2.out.size)).alloc (HG2.out.trans (hb3.mono HG2.out.size)).size _
        · rw [hV4, hY, HXS.out.1]; exact heap_alloc_new _ _
      have hcm4 := HV4.out.2
      rw [HXS.out.1] at hcm4
      obtain ⟨b0, b1, b2, b3, b4, b5, b6, b7, b8, b9, b10⟩ := hcm4.row
      obtain ⟨g4, a0, a1, a2, a3, a4, a5, a6, a7, a8, a9, a10⟩ := HB.out _ HV4.out.1
      have HG4 := hidW g4
      simp only [← hY]
      simp only [← hV4]
      clear hY hV4 hb3 hcm4 g4
      go_upto_region 9 with fail
      clear b0 b1 b2 b3 b4 b5 b6 b7 b8 b9 b10 heqq
      by_cases hr : 0 ≤ at' ∧ at' < (bS.size : Int)
      rotate_left
      · by_cases h0 : 0 ≤ at'
        · have h1 : ¬ at' < (bS.size : Int) := fun h => hr ⟨h0, h⟩
          clear hr a0 a1 a2 a3 a4 a5 a6 a7 a8 a9 a10
          go_wp2_with fail
          go_meet
          case rel => exact HG4.out
        · clear hr a0 a1 a2 a3 a4 a5 a6 a7 a8 a9 a10
          go_wp2_with fail
          go_meet
          case rel => exact HG4.out
      · obtain ⟨h0, h1⟩ := hr
        obtain ⟨k, hk⟩ : ∃ k : Nat, at' = (k : Int) := ⟨at'.toNat, by omega⟩
        subst hk
        have hkz : k < bS.size := by omega
        by_cases hsame : (bS[k].toNat : Int) = tt
        · clear a0 a1 a2 a3 a4 a5 a6 a7 a8 a9 a10
          go_wp2_with fail
          go_meet
          case rel => exact HG4.out
        · obtain ⟨t8, ht8⟩ : ∃ t8 : UInt8, (t8.toNat : Int) = tt := ⟨UInt8.ofNat tt.toNat, by rw [UInt8.toNat_ofNat']; omega⟩
          have hne8 : (bl bS)[k]! ≠ t8 := fun h => hsame (by rw [bl_get hkz, h]; exact ht8)
          obtain ⟨L, hL⟩ : ∃ L, L = (bl bS).set k t8 := ⟨_, rfl⟩
          have hLn : L ≠ enc xs := by
            intro h
            have e1 : bl bS = enc xs := by rw [HBE.out.1, bl_tx]
            have hkl : k < (bl bS).length := by rw [bl_length]; exact hkz
            have e2 : L[k]! = t8 := by rw [hL, getW _ _ (by rw [List.length_set]; exact hkl)]; simp
            rw [h, ← e1] at e2
            exact hne8 e2
          have HL := hidW (And.intro hL hLn)
          have HT8 := hidW ht8
          have hcv9 := Lib.run_convert_string_bytes (P := Try.prog) (u := .string) V4 9 33 5 bS (by kernel_rfl) (by kernel_rfl) (by kernel_rfl)
          have hne1 : ¬ ((bS[k].toNat : Int) = tt) := hsame
          clear hne8 hLn hL ht8 hsame a0 a1 a2 a3 a4 a5 a6 a7 a8 a9 a10
          go_upto_region 11 with fail
          obtain ⟨G, hG⟩ : ∃ G, G = V4.heap.size := ⟨_, rfl⟩
          obtain ⟨W5, hW5⟩ : ∃ W5, W5 = Lib.bytesWorld V4 5 bS := ⟨_, rfl⟩
          obtain ⟨cap, hcap⟩ : ∃ cap, cap = grownCap V4 bS.size 0 5 := ⟨_, rfl⟩
          have hcells : ∀ i, i < bS.size → W5.cell? ⟨G, i, none⟩ = some (.int .u8 (((bl bS)[i]!).toNat : Int)) := fun i hi => by rw [hW5, hG]; exact bytes_cell V4 5 bS hi
          have hb5 : Below V4.heap.size V4 W5 := by rw [hW5]; exact below_bytes V4 5 bS
          have HW5 : Hid (Below V.heap.size V W5 ∧ V.heap.size ≤ G) := hidW ⟨HV4.out.1.trans (hb5.mono HV4.out.1.size), by rw [hG]; exact HV4.out.1.size⟩
          have hck := hcells k hkz
          have hfk : W5.frozen? ⟨G, k, none⟩ = false := by rw [hW5, hG]; exact bytes_frozen V4 5 bS hkz
          have HBS : Hid (Lib.Bytes (W5.setCell ⟨G, k, none⟩ (.int .u8 tt)) G 0 (tx L)) := by
            rw [HL.out.1, ← HT8.out]
            exact bytes_set W5 G bS k t8 hkz hcells
          simp only [← hG, ← hcap]
          simp only [← hW5]
          clear hG hW5 hcap hcells hb5 hcv9 hne1
          go_upto_region 12 with fail
          have HW6 : Hid (Below V.heap.size V (W5.setCell ⟨G, k, none⟩ (.int .u8 tt))) := HW5.out.1.setCell (p := ⟨G, k, none⟩) HW5.out.2 _
          have hcv6 := Lib.run_convert_whole (P := Try.prog) (W5.setCell ⟨G, k, none⟩ (.int .u8 tt)) 33 5 9 (by kernel_rfl) (by kernel_rfl) (by kernel_rfl) G 0 (tx L) HBS.out cap
          rw [tx_size, HL.out.1, List.length_set, bl_length, ← HL.out.1] at hcv6
          generalize W5.setCell ⟨G, k, none⟩ (.int .u8 tt) = W6 at HW6 hcv6 HBS ⊢
          have hLs : (tx L).size ≤ 9223372036854775807 := by rw [tx_size, HL.out.1, List.length_set, bl_length]; have := HBZ.out; omega
          have hrc := fun W => readc_walk (tx L) hLs W
          rw [bl_tx] at hrc
          obtain ⟨y, hy⟩ : ∃ y, y = rdC L := ⟨_, rfl⟩
          rw [← hy] at hrc
          cases y with
          | none =>
            have HR2 : Hid (∀ W, Calls Try.prog 6 #[.string (tx L)] W fun e w' => e = .returned (.tuple #[.agg #[.int .i64 0, .int .i64 0, .int .i64 0, .int .i64 0, .int .i64 0, .int .i64 0, .int .i64 0, .int .i64 0, .int .i64 0, .int .i64 0, .int .i64 0], .iface 50 (.int .i64 2)]) ∧ Below W.heap.size W w') := hrc
            clear hrc hy hLs hck hfk
            go_wp2_with (go_at_call 6; refine (HR2.out _).mono ?_; rintro e w7 ⟨rfl, hb7⟩)
            go_meet
            case rel => exact (HB.out _ ((HW6.out.trans (hb7.mono HW6.out.size)).alloc (HW6.out.trans (hb7.mono HW6.out.size)).size _)).1
          | some z =>
            have hz := rdC_some hy.symm
            have hzx : z ≠ xs := fun h => HL.out.2 (by rw [← hz.2.2, h])
            have heqq : ∀ W, (binOp .eql 25 (cV z) (cV xs)).run Try.prog W = .ok (.bool false) W := fun W => (run_eql_cmd z xs hz.1 HXS.out.2 W).trans (by simp [hzx])
            rw [HCV.out] at heqq
            obtain ⟨z0, z1, z2, z3, z4, z5, z6, z7, z8, z9, z10, hzz⟩ := list11' hz.1
            have hcz : cV z = .agg #[.int .i64 z0, .int .i64 z1, .int .i64 z2, .int .i64 z3, .int .i64 z4, .int .i64 z5, .int .i64 z6, .int .i64 z7, .int .i64 z8, .int .i64 z9, .int .i64 z10] := by rw [hzz]; rfl
            rw [hcz] at heqq
            have HR2 : Hid (∀ W, Calls Try.prog 6 #[.string (tx L)] W fun e w' => e = .returned (.tuple #[.agg #[.int .i64 z0, .int .i64 z1, .int .i64 z2, .int .i64 z3, .int .i64 z4, .int .i64 z5, .int .i64 z6, .int .i64 z7, .int .i64 z8, .int .i64 z9, .int .i64 z10], .nilIface]) ∧ Below W.heap.size W w') := by
              rw [← hcz]; exact hrc
            have HZZ := hidW hzz
            clear hrc hy hLs hck hfk hz hzx hzz hcz
            go_upto_region 13 with (go_at_call 6; refine (HR2.out _).mono ?_; rintro e w7 ⟨rfl, hb7⟩)
            obtain ⟨Y7, hY7⟩ : ∃ Y7, Y7 = w7.heap.size := ⟨_, rfl⟩
            obtain ⟨V7, hV7⟩ : ∃ V7, V7 = w7.alloc (.cells #[.int .i64 z0, .int .i64 z1, .int .i64 z2, .int .i64 z3, .int .i64 z4, .int .i64 z5, .int .i64 z6, .int .i64 z7, .int .i64 z8, .int .i64 z9, .int .i64 z10] 25) := ⟨_, rfl⟩
            have hb8 : Below V.heap.size V V7 := by rw [hV7]; exact (HW6.out.trans (hb7.mono HW6.out.size)).alloc (HW6.out.trans (hb7.mono HW6.out.size)).size _
            have hcm7 : Cmd V7 Y7 [z0, z1, z2, z3, z4, z5, z6, z7, z8, z9, z10] := by rw [hV7, hY7]; exact heap_alloc_new _ _
            obtain ⟨b0, b1, b2, b3, b4, b5, b6, b7, b8, b9, b10⟩ := hcm7.row
            obtain ⟨g7, a0, a1, a2, a3, a4, a5, a6, a7, a8, a9, a10⟩ := HB.out _ hb8
            have HG7 := hidW g7
            simp only [← hY7]
            simp only [← hV7]
            clear hY7 hV7 hb7 hcm7 g7 hb8 hcv6
            go_wp2_with fail
            go_meet
            case rel => exact HG7.out
  case rest =>
  have HA : Hid (Below X w wc) := hcut.out
  clear q1 q3 hcut HE HCO HG HG2
  obtain ⟨E2, hE2⟩ : ∃ E, E = packE zs := ⟨_, rfl⟩
  obtain ⟨pS, hpS⟩ : ∃ b, b = packS zs := ⟨_, rfl⟩
  have HP := hidW (And.intro hE2 hpS)
  have q1 := err_eql E2
  have q3 := fun (x : Operand) (W : World) => err_guard .eql x .nilIface E2 W
  have HPK : Hid (∀ W, Below X w W → Calls Try.prog 7 #[.slice q n c] W fun e w' => e = .returned (.tuple #[.string pS, errV E2]) ∧ Below X w w') := fun W hW => by
    rw [hE2, hpS]
    rw [HX.out] at hW ⊢
    exact (pack_any _ zs W (HVV.out.below hW)).mono fun _ _ h' => ⟨h'.1, hW.trans (h'.2.mono hW.size)⟩
  obtain ⟨ew, hev⟩ : ∃ ev, ev = errV E2 := ⟨_, rfl⟩
  rw [← hev] at HPK q1 q3
  clear hE2 hpS hev
  go_upto_if 96 with (go_at_call 7; refine (HPK.out _ HA.out).mono ?_; rintro e w2 ⟨rfl, hb2⟩)
  have HA2 := hidW hb2
  clear hb2
  go_cut [20, 21, 22] from 96 to 110 (fun s20 s21 s22 wx => Aside (Below X w wx))
  case first =>
    by_cases hE0 : E2 = 0
    rotate_left
    · have hd : decide (E2 = 0) = false := decide_eq_false hE0
      rw [hd]
      clear q1 q3 hd hE0
      go_wp2_with fail
      go_meet
      case rel => exact HA2.out
    · have hd : decide (E2 = 0) = true := decide_eq_true hE0
      rw [hd]
      have hpe : packE zs = 0 := by rw [← HP.out.1]; exact hE0
      have hps : pS = tx (packB zs) := by rw [HP.out.2, packS, if_pos hpe]
      have hsz : pS.size ≤ 9223372036854775807 := by
        obtain ⟨g1, g2⟩ := firstE_nn hpe
        have := packB_length zs HVV.out.1 g2
        rw [hps, tx_size]
        omega
      have HUN : Hid (∀ W, Below X w W → Calls Try.prog 8 #[.string pS] W fun e w' => ∃ v, e = .returned (.tuple #[v, .nilIface]) ∧ CX w' v zs ∧ Below X w w') := fun W hW => by
        have h1 := unpack_any pS hsz W
        rw [hps, bl_tx, pack_back HVV.out.1 hpe] at h1
        rw [hps]
        refine h1.mono fun e w' h' => ?_
        obtain ⟨⟨v, h2, h3⟩, h4⟩ := h'
        exact ⟨v, h2, h3, hW.trans (h4.mono (by rw [HX.out]; exact (by rw [HX.out] at hW; exact hW.size)))⟩
      clear q1 q3 hd hE0 hpe hps hsz
      go_upto_region 18 with (go_at_call 8; refine (HUN.out _ HA2.out).mono ?_; rintro e w3 ⟨v3, rfl, hx3, hb3⟩)
      have HSM : Hid (Calls Try.prog 9 #[v3, .slice q n c] w3 fun e w' => e = .returned (.bool true) ∧ Below X w w') := by
        refine (commands_same v3 (.slice q n c) zs w3 hx3 (HVV.out.below (by rw [← HX.out]; exact hb3))).mono fun e w' h' => ⟨h'.1, hb3.trans (h'.2.mono (by rw [HX.out]; exact (by rw [HX.out] at hb3; exact hb3.size)))⟩
      clear hx3 hb3
      go_wp2_with (go_at_call 9; refine HSM.out.mono ?_; rintro e w4 ⟨rfl, hb4⟩)
      go_meet
      case rel => exact hb4
  case rest =>
  have HA3 : Hid (Below X w wc) := hcut.out
  clear q1 q3 hcut HP HPK
  obtain ⟨y, hy⟩ : ∃ y, y = unp (bl s).length (bl s) 0 := ⟨_, rfl⟩
  have HUN : Hid (∀ W, Below X w W → Calls Try.prog 8 #[.string s] W fun e w' => UnpV w' e y ∧ Below X w w') := fun W hW => by
    rw [hy]
    exact (unpack_any s hs W).mono fun _ _ h' => ⟨h'.1, hW.trans (h'.2.mono (by rw [HX.out]; exact (by rw [HX.out] at hW; exact hW.size)))⟩
  cases y with
  | none =>
    have HU2 : Hid (∀ W, Below X w W → Calls Try.prog 8 #[.string s] W fun e w' => e = .returned (.tuple #[.slice none 0 0, .iface 50 (.int .i64 2)]) ∧ Below X w w') := HUN.out
    clear HUN hy
    go_wp2_with (go_at_call 8; refine (HU2.out _ HA3.out).mono ?_; rintro e w3 ⟨rfl, hb3⟩)
    go_ret
    exact ⟨rfl, hb3⟩
  | some l =>
    obtain ⟨p1, p2⟩ := pack_of hy.symm
    have HPB := hidW (And.intro p1 p2)
    have HU2 : Hid (∀ W, Below X w W → Calls Try.prog 8 #[.string s] W fun e w' => (∃ v, e = .returned (.tuple #[v, .nilIface]) ∧ CX w' v l) ∧ Below X w w') := HUN.out
    clear HUN hy p1 p2
    go_upto_region 24 with (go_at_call 8; refine (HU2.out _ HA3.out).mono ?_; rintro e w3 ⟨⟨v3, rfl, hx3⟩, hb3⟩)
    have HPK : Hid (Calls Try.prog 7 #[v3] w3 fun e w' => e = .returned (.tuple #[.string s, .nilIface]) ∧ Below X w w') := by
      have h1 := pack_any v3 l w3 hx3
      rw [HPB.out.1, errV_zero, packS, if_pos HPB.out.1, HPB.out.2, tx_bl] at h1
      exact h1.mono fun e w' h' => ⟨h'.1, hb3.trans (h'.2.mono (by rw [HX.out]; exact (by rw [HX.out] at hb3; exact hb3.size)))⟩
    clear hx3 hb3
    go_wp2_with (go_at_call 7; refine HPK.out.mono ?_; rintro e w4 ⟨rfl, hb4⟩)
    go_ret
    exact ⟨rfl, hb4⟩
end Go.Proofs.Ythfdndnbafencaa.wir
