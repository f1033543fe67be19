/- Contracts over this seat's translation: the document's Bytes. -/
import Derived.Test.YtndkabnmffgebaaDoorWTTwo
import Derived.Test.YtndkabnmffgebaaDoorWirCmd
namespace Go.Proofs.YtndkabnmffgebaaDoor.wir
open Go.RowKit

theorem wrt4 (n : Int) : wrt (n / 65536) 2 ++ wrt (n % 65536) 2 = wrt n 4 := by
  have h : ∀ (x y : Int) (i j : Nat), (x / 2 ^ (i * 8)) % 256 = (y / 2 ^ (j * 8)) % 256 → bt x i = bt y j := fun x y i j h => by unfold bt; rw [h]
  have e3 : bt (n / 65536) 1 = bt n 3 := h _ _ _ _ (by
    show n / 65536 / 256 % 256 = n / 16777216 % 256
    omega)
  have e2 : bt (n / 65536) 0 = bt n 2 := h _ _ _ _ (by
    show n / 65536 / 1 % 256 = n / 65536 % 256
    omega)
  have e1 : bt (n % 65536) 1 = bt n 1 := h _ _ _ _ (by
    show n % 65536 / 256 % 256 = n / 256 % 256
    omega)
  have e0 : bt (n % 65536) 0 = bt n 0 := h _ _ _ _ (by
    show n % 65536 / 1 % 256 = n / 1 % 256
    omega)
  show [bt (n / 65536) 1, bt (n / 65536) 0] ++ [bt (n % 65536) 1, bt (n % 65536) 0] = [bt n 3, bt n 2, bt n 1, bt n 0]
  rw [e3, e2, e1, e0]
  rfl
/-- The numbers of a command with which nothing is wrong lie in their bounds. -/
theorem good_bounds {xs : List Int} (hl : xs.length = 11) (h : cchk xs = 0) : ∀ x ∈ xs, 0 ≤ x ∧ x ≤ 1000000000 := by
  rcases good_form hl h with ⟨a, b, c, d, p, q, s, t, rfl, hc⟩ | ⟨a, rfl, h1, h2⟩ | ⟨a, p, q, rfl, h1, h2, h3, h4, h5, h6⟩ | ⟨k, w, n, rfl, hk, h1, h2, h3, h4⟩
  · obtain ⟨⟨a1, a2⟩, ⟨b1, b2⟩, ⟨c1, c2⟩, ⟨d1, d2⟩, ⟨p1, p2⟩, ⟨q1, q2⟩, ⟨s1, s2⟩, ⟨t1, t2⟩⟩ := chk_bounds hc
    intro x hx
    simp only [List.mem_cons, List.not_mem_nil, or_false] at hx
    omega
  · intro x hx
    simp only [List.mem_cons, List.not_mem_nil, or_false] at hx
    omega
  · intro x hx
    simp only [List.mem_cons, List.not_mem_nil, or_false] at hx
    omega
  · intro x hx
    simp only [List.mem_cons, List.not_mem_nil, or_false] at hx
    omega
theorem good_kind {xs : List Int} (hl : xs.length = 11) (h : cchk xs = 0) : xs[0]! = 1 ∨ xs[0]! = 2 ∨ xs[0]! = 3 ∨ xs[0]! = 4 ∨ xs[0]! = 5 := by
  rcases good_form hl h with ⟨a, b, c, d, p, q, s, t, rfl, hc⟩ | ⟨a, rfl, h1, h2⟩ | ⟨a, p, q, rfl, h1, h2, h3, h4, h5, h6⟩ | ⟨k, w, n, rfl, hk, h1, h2, h3, h4⟩
  · exact .inl rfl
  · exact .inr (.inl rfl)
  · exact .inr (.inr (.inl rfl))
  · rcases hk with rfl | rfl
    · exact .inr (.inr (.inr (.inl rfl)))
    · exact .inr (.inr (.inr (.inr rfl)))

set_option maxRecDepth 100000 in
set_option maxHeartbeats 1000000 in
theorem rbytes_any (xs : List Int) (hl : xs.length = 11) (hok : cchk xs = 0) (w : World) :
    Calls Tryd.prog 7 #[cV xs] w fun e w' => e = .returned (.string (tx (enc xs))) ∧ Below w.heap.size w w' := by
  have hbd := good_bounds hl hok
  have hkd := good_kind hl hok
  obtain ⟨R, hR⟩ : ∃ R, R = enc xs := ⟨_, rfl⟩
  obtain ⟨M, hM⟩ : ∃ M, M = wrs xs (offs (xs[0]!)) := ⟨_, rfl⟩
  have HR : Hid (R = M ++ [lastB M]) := by rw [hR, hM]; exact hidW rfl
  have HMl : Hid (M.length ≤ 36) := hidW (by rw [hM]; have := wrs_length xs _ (offs_small (xs[0]!)); have := offs_length (xs[0]!); omega)
  obtain ⟨c0, c1, c2, c3, c4, c5, c6, c7, c8, c9, c10, rfl⟩ := list11' hl
  rw [← hR]
  clear hR hl hok
  have hkd' : c0 = 1 ∨ c0 = 2 ∨ c0 = 3 ∨ c0 = 4 ∨ c0 = 5 := hkd
  have hb : ∀ x ∈ [c0, c1, c2, c3, c4, c5, c6, c7, c8, c9, c10], 0 ≤ x ∧ x ≤ 1000000000 := hbd
  have b0 := hb c0 (by simp)
  have b1 := hb c1 (by simp)
  have b2 := hb c2 (by simp)
  have b3 := hb c3 (by simp)
  have b4 := hb c4 (by simp)
  have b5 := hb c5 (by simp)
  have b6 := hb c6 (by simp)
  have b7 := hb c7 (by simp)
  have b8 := hb c8 (by simp)
  have b9 := hb c9 (by simp)
  have b10 := hb c10 (by simp)
  have HBD := hidW (And.intro b0 (And.intro b1 (And.intro b2 (And.intro b3 (And.intro b4 (And.intro b5 (And.intro b6 (And.intro b7 (And.intro b8 (And.intro b9 b10))))))))))
  have HM : Hid (M = wrs [c0, c1, c2, c3, c4, c5, c6, c7, c8, c9, c10] (offs c0)) := hM
  clear hM hbd hb hkd b1 b2 b3 b4 b5 b6 b7 b8
  have hcv : cV [c0, c1, c2, c3, c4, c5, c6, c7, c8, c9, c10] = .agg #[.int .i64 c0, .int .i64 c1, .int .i64 c2, .int .i64 c3, .int .i64 c4, .int .i64 c5, .int .i64 c6, .int .i64 c7, .int .i64 c8, .int .i64 c9, .int .i64 c10] := rfl
  rw [hcv]
  clear hcv
  obtain ⟨X, hX⟩ : ∃ X, X = w.heap.size := ⟨_, rfl⟩
  have HX := hidW hX
  obtain ⟨V, hV⟩ : ∃ V, V = (w.alloc (.cells #[.int .i64 c0, .int .i64 c1, .int .i64 c2, .int .i64 c3, .int .i64 c4, .int .i64 c5, .int .i64 c6, .int .i64 c7, .int .i64 c8, .int .i64 c9, .int .i64 c10] 25)).alloc (.cells #[.int .i64 c1, .int .i64 c2, .int .i64 c3, .int .i64 c4, .int .i64 c5, .int .i64 c6, .int .i64 c7, .int .i64 c8] 23) := ⟨_, rfl⟩
  have HV : Hid (Below X w V ∧ Cmd V X [c0, c1, c2, c3, c4, c5, c6, c7, c8, c9, c10] ∧ V.heap[X + 1]? = some (.cells #[.int .i64 c1, .int .i64 c2, .int .i64 c3, .int .i64 c4, .int .i64 c5, .int .i64 c6, .int .i64 c7, .int .i64 c8] 23 (0, 0)) ∧ V.heap.size = X + 2) := by
    subst hV hX
    refine ⟨((Below.refl _ _).alloc (Nat.le_refl _) _).alloc (by simp) _, ?_, ?_, by simp⟩
    · have h1 := heap_alloc_new w (.cells #[.int .i64 c0, .int .i64 c1, .int .i64 c2, .int .i64 c3, .int .i64 c4, .int .i64 c5, .int .i64 c6, .int .i64 c7, .int .i64 c8, .int .i64 c9, .int .i64 c10] 25)
      exact (Lib.alloc_old _ _ w.heap.size (by simp)).trans h1
    · have h1 := heap_alloc_new (w.alloc (.cells #[.int .i64 c0, .int .i64 c1, .int .i64 c2, .int .i64 c3, .int .i64 c4, .int .i64 c5, .int .i64 c6, .int .i64 c7, .int .i64 c8, .int .i64 c9, .int .i64 c10] 25)) (.cells #[.int .i64 c1, .int .i64 c2, .int .i64 c3, .int .i64 c4, .int .i64 c5, .int .i64 c6, .int .i64 c7, .int .i64 c8] 23)
      rw [World.size_alloc] at h1
      exact h1
  have HST : Hid (∀ W, Lib.OthersKept 5 none V W → (W.cell? ⟨X, 0, none⟩ = some (.int .i64 c0) ∧ W.cell? ⟨X, 9, none⟩ = some (.int .i64 c9) ∧ W.cell? ⟨X, 10, none⟩ = some (.int .i64 c10)) ∧ (W.cell? ⟨X + 1, 0, none⟩ = some (.int .i64 c1) ∧ W.cell? ⟨X + 1, 1, none⟩ = some (.int .i64 c2) ∧ W.cell? ⟨X + 1, 2, none⟩ = some (.int .i64 c3) ∧ W.cell? ⟨X + 1, 3, none⟩ = some (.int .i64 c4) ∧ W.cell? ⟨X + 1, 4, none⟩ = some (.int .i64 c5) ∧ W.cell? ⟨X + 1, 5, none⟩ = some (.int .i64 c6) ∧ W.cell? ⟨X + 1, 6, none⟩ = some (.int .i64 c7) ∧ W.cell? ⟨X + 1, 7, none⟩ = some (.int .i64 c8))) := by
    intro W hW
    have h1 := (HV.out.2.1.stays hW).row
    have h2 : W.heap[X + 1]? = some (.cells #[.int .i64 c1, .int .i64 c2, .int .i64 c3, .int .i64 c4, .int .i64 c5, .int .i64 c6, .int .i64 c7, .int .i64 c8] 23 (0, 0)) := hW (X + 1) _ HV.out.2.2.1 (by simp) (by intro c fz hc; cases hc)
    exact ⟨⟨h1.1, h1.2.2.2.2.2.2.2.2.2.1, h1.2.2.2.2.2.2.2.2.2.2⟩, by simp [World.cell?, h2], by simp [World.cell?, h2], by simp [World.cell?, h2], by simp [World.cell?, h2], by simp [World.cell?, h2], by simp [World.cell?, h2], by simp [World.cell?, h2], by simp [World.cell?, h2]⟩
  obtain ⟨⟨a0, a9, a10⟩, o0, o1, o2, o3, o4, o5, o6, o7⟩ := HST.out V (Lib.OthersKept.refl _ _ _)
  obtain ⟨i0, hi, hz0, hz1, hz2⟩ := infoU
  have HI := hidW (And.intro hi (And.intro hz0 (And.intro hz1 hz2)))
  clear hi hz0 hz1 hz2
  rw [← hX]
  go_enter Tryd.func7, Tryd.ntmps7
  go_upto_region 2 with fail
  simp only [← hX]
  simp only [← hV]
  clear hX hV
  iterate 20 go_step
  obtain ⟨V1, hV1⟩ : ∃ V1, V1 = V.alloc (.cells #[.int .u8 c0] 5) := ⟨_, rfl⟩
  have e00 : ((bt c0 0).toNat : Int) = c0 := bt_head c0 (by omega) (by omega)
  have HV1 : Hid (OwnB (X + 2) V1 (.slice (some ⟨X + 2, 0, none⟩) 1 1) [bt c0 0] ∧ Below X w V1 ∧ X + 2 ≤ V1.heap.size ∧ Lib.OthersKept 5 none V V1) := by
    have hs := HV.out.2.2.2
    have h1 := World.ownsRow_lit (base := X + 2) (e := 5) (size := 1) V #[.int .u8 c0] 1 (by omega) (by unfold maxLen; omega) rfl
    rw [hs, ← hV1] at h1
    refine ⟨?_, ?_, by rw [hV1, World.size_alloc]; omega, by rw [hV1]; exact (Lib.OthersKept.refl _ _ _).alloc _⟩
    · show V1.ownsRow (X + 2) 5 1 _ 1 [.int .u8 ((bt c0 0).toNat : Int)]
      rw [e00]; exact h1
    · rw [hV1]; exact HV.out.1.alloc (by omega) _
  have hxx := HV.out.2.2.2
  simp only [hxx]
  simp only [← hV1]
  clear hV1 e00 hxx
  obtain ⟨⟨a0, a9, a10⟩, o0, o1, o2, o3, o4, o5, o6, o7⟩ := HST.out V1 HV1.out.2.2.2
  go_cut [4, 5, 6] from 15 to 83 (fun s4 s5 s6 wx => ∃ q c, s4 = .slice q M.length c ∧ Aside (OwnB (X + 2) wx (.slice q M.length c) M ∧ Below X w wx ∧ X + 2 ≤ wx.heap.size))
  case first =>
    have HTW : Hid (∀ (x : Int) (v : Value) (bs : List UInt8) (W : World), 0 ≤ x → x < 4294967296 → OwnB (X + 2) W v bs → bs.length ≤ 1000000 → X + 2 ≤ W.heap.size → Below X w W → Lib.OthersKept 5 none V W →
        Calls Tryd.prog 21 #[v, .int .i64 x] W fun e w' => ∃ v', e = .returned v' ∧ OwnB (X + 2) w' v' (bs ++ wrt x 2) ∧ Below X w w' ∧ Lib.OthersKept 5 none V w' ∧ X + 2 ≤ w'.heap.size) := by
      intro x v bs W h0 h1 h2 h3 h4 h5 h6
      refine (two_any (X + 2) x v bs W h4 h0 h1 h2 h3).mono ?_
      rintro e w' ⟨v', rfl, g1, g2, g3⟩
      exact ⟨v', rfl, g1, h5.trans (g2.mono (by omega)), h6.trans g3, by have := g2.size; omega⟩
    have HEND : Hid (∀ v W, OwnB (X + 2) W v M → ∃ q c, v = .slice q M.length c) := fun v W h => own_form h
    rcases hkd' with rfl | rfl | rfl | rfl | rfl
    · have HM1 : Hid (M = [bt 1 0] ++ [c1, c2, c3, c4, c5, c6, c7, c8].flatMap (fun x => wrt x 2)) := hidW (by rw [HM.out]; rfl)
      obtain ⟨os, hos⟩ : ∃ os, os = [c1, c2, c3, c4, c5, c6, c7, c8] := ⟨_, rfl⟩
      have HOS : Hid (os.length = 8 ∧ ∀ x ∈ os, 0 ≤ x ∧ x ≤ 1000000000) := by
        refine ⟨by rw [hos]; rfl, fun x hx => ?_⟩
        rw [hos] at hx
        have := HBD.out
        simp only [List.mem_cons, List.not_mem_nil, or_false] at hx
        rcases hx with rfl | rfl | rfl | rfl | rfl | rfl | rfl | rfl <;> omega
      rw [← hos] at HM1
      go_upto_region 9 with fail
      obtain ⟨G, hG⟩ : ∃ G, G = V1.heap.size := ⟨_, rfl⟩
      obtain ⟨V5, hV5⟩ : ∃ V5, V5 = V1.alloc (.cells #[.int .i64 c1, .int .i64 c2, .int .i64 c3, .int .i64 c4, .int .i64 c5, .int .i64 c6, .int .i64 c7, .int .i64 c8] 3) := ⟨_, rfl⟩
      have HV5 : Hid (OwnB (X + 2) V5 (.slice (some ⟨X + 2, 0, none⟩) 1 1) [bt 1 0] ∧ Below X w V5 ∧ X + 2 ≤ V5.heap.size ∧ Lib.OthersKept 5 none V V5 ∧ V5.heap[G]? = some (.cells (iL os).toArray 3 (0, 0))) := by
        obtain ⟨g1, g2, g3, g4⟩ := HV1.out
        refine ⟨by rw [hV5]; exact World.ownsRow.alloc g1 _, by rw [hV5]; exact g2.alloc (by omega) _, by rw [hV5, World.size_alloc]; omega, by rw [hV5]; exact g4.alloc _, ?_⟩
        rw [hV5, hG, hos]
        exact heap_alloc_new _ _
      simp only [← hG]
      simp only [← hV5]
      clear hG hV5 hos a0 a9 a10 o0 o1 o2 o3 o4 o5 o6 o7
      go_wp2_with fail
      go_loopg [4, 6] 8 (fun gg s4 s6 wx => ∃ k : Nat, k ≤ 8 ∧ 8 - k ≤ gg ∧ s6 = .int .i64 k ∧ Aside (OwnB (X + 2) wx s4 ([bt 1 0] ++ (os.take k).flatMap (fun x => wrt x 2)) ∧ Below X w wx ∧ X + 2 ≤ wx.heap.size ∧ Lib.OthersKept 5 none V wx ∧ wx.heap[G]? = some (.cells (iL os).toArray 3 (0, 0))))
      case atStart => exact ⟨0, by omega, by omega, rfl, HV5.out⟩
      case round =>
        obtain ⟨k, hk, hg, rfl, HA⟩ := hrel
        have HA2 := hidW HA.out
        clear HA
        by_cases hlt : k < 8
        · have hltz : (k : Int) < 8 := by omega
          have hin1 : ¬ ((k : Int) < 0) := by omega
          have hlz : k < os.length := by rw [HOS.out.1]; exact hlt
          have hcell : wr.cell? ⟨G, k, none⟩ = some (.int .i64 (os[k]!)) := by
            simp only [World.cell?, HA2.out.2.2.2.2, List.getElem?_toArray]
            exact iL_at hlz
          have hbk := HOS.out.2 (os[k]!) (by rw [getW _ _ hlz]; exact List.getElem_mem hlz)
          have hwk : wrap64 ((k : Int) + 1) = ((k + 1 : Nat) : Int) := by unfold wrap64; omega
          have HK := hidW (And.intro hwk (And.intro hlt hg))
          have htk : (os.take (k + 1)).flatMap (fun x => wrt x 2) = (os.take k).flatMap (fun x => wrt x 2) ++ wrt (os[k]!) 2 := by
            rw [List.take_succ_eq_append_getElem hlz, List.flatMap_append, getW _ _ hlz]
            simp
          have HTK := hidW htk
          have hlnn : ([bt 1 0] ++ (os.take k).flatMap (fun x => wrt x 2)).length ≤ 1000000 := by
            have e : ∀ l : List Int, (l.flatMap (fun x => wrt x 2)).length = 2 * l.length := by
              intro l
              induction l with
              | nil => rfl
              | cons a r ih => rw [List.flatMap_cons, List.length_append, ih, wrt_length, List.length_cons]; omega
            rw [List.length_append, e, List.length_take]
            simp only [List.length_cons, List.length_nil]
            omega
          obtain ⟨x, hx⟩ : ∃ x, x = os[k]! := ⟨_, rfl⟩
          rw [← hx] at hcell hbk HTK
          have HSX : 0 ≤ x ∧ x < 4294967296 := ⟨hbk.1, by omega⟩
          have HSL := hlnn
          clear htk hlnn hx hwk hg hk hbk
          have HC2 : Hid (Calls Tryd.prog 21 #[u4, .int .i64 x] wr fun e w' => ∃ v', e = .returned v' ∧ (OwnB (X + 2) w' v' ([bt 1 0] ++ (os.take (k + 1)).flatMap (fun x => wrt x 2)) ∧ Below X w w' ∧ X + 2 ≤ w'.heap.size ∧ Lib.OthersKept 5 none V w' ∧ w'.heap[G]? = some (.cells (iL os).toArray 3 (0, 0)))) := by
            have hcc := two_any (X + 2) x u4 _ wr HA2.out.2.2.1 (HSX.1) (HSX.2) HA2.out.1 HSL
            refine hcc.mono ?_
            rintro e w' ⟨v', rfl, g1, g2, g3⟩
            refine ⟨v', rfl, ?_, HA2.out.2.1.trans (g2.mono (by omega)), by have := g2.size; have := HA2.out.2.2.1; omega, HA2.out.2.2.2.1.trans g3, g3 G _ HA2.out.2.2.2.2 (by simp) (by intro c fz hc; cases hc)⟩
            rw [HTK.out, ← List.append_assoc]
            exact g1
          clear HSX HSL
          go_wp2_with (go_at_call 21; refine HC2.out.mono ?_; rintro e w2 ⟨v2, rfl, hf⟩)
          go_roundg (8 - (k + 1))
          case measure => have := HK.out; omega
          case rel => exact ⟨k + 1, HK.out.2.1, Nat.le_refl _, by first | exact congrArg (Value.int .i64) HK.out.1 | go_num, hf⟩
        · obtain rfl : k = 8 := by omega
          have ht : os.take 8 = os := List.take_of_length_le (by rw [HOS.out.1]; exact Nat.le_refl _)
          rw [ht, ← HM1.out] at HA2
          obtain ⟨q2, k2, hv2⟩ := HEND.out _ _ HA2.out.1
          have hltz : ¬ (((8 : Nat) : Int) < 8) := by decide
          clear hk hg ht
          go_wp2_with fail
          go_meet
          case rel => exact ⟨q2, k2, by first | rfl | exact hv2, by rw [← hv2]; exact HA2.out.1, HA2.out.2.1, HA2.out.2.2.1⟩
    · have HM2 : Hid (M = [bt 2 0] ++ wrt c1 2) := HM.out
      have HC := hidW (HTW.out c1 _ _ V1 HBD.out.2.1.1 (by have := HBD.out.2.1; omega) HV1.out.1 (by simp) HV1.out.2.2.1 HV1.out.2.1 HV1.out.2.2.2)
      go_wp2_with (go_at_call 21; refine HC.out.mono ?_; rintro e w2 ⟨v2, rfl, h1, h2, h3, h4⟩)
      rw [← HM2.out] at h1
      obtain ⟨q2, k2, hv2⟩ := HEND.out _ _ h1
      go_meet
      case rel => exact ⟨q2, k2, hv2, by rw [← hv2]; exact h1, h2, h4⟩
    · have HM3 : Hid (M = [bt 3 0] ++ wrt c1 2 ++ wrt c5 2 ++ wrt c6 2) := hidW (by rw [HM.out]; simp [wrs, offs, wrt])
      have HC := hidW (HTW.out c1 _ _ V1 HBD.out.2.1.1 (by have := HBD.out.2.1; omega) HV1.out.1 (by simp) HV1.out.2.2.1 HV1.out.2.1 HV1.out.2.2.2)
      go_upto_region 17 with (go_at_call 21; refine HC.out.mono ?_; rintro e w2 ⟨v2, rfl, h1, h2, h3, h4⟩)
      have HC2 := hidW (HTW.out c5 _ _ w2 HBD.out.2.2.2.2.2.1.1 (by have := HBD.out.2.2.2.2.2.1; omega) h1 (by simp [wrt]) h4 h2 h3)
      obtain ⟨-, o0, o1, o2, o3, o4, o5, o6, o7⟩ := HST.out w2 h3
      clear h1 h2 h3 h4
      go_upto_region 18 with (go_at_call 21; refine HC2.out.mono ?_; rintro e w3 ⟨v3, rfl, h1, h2, h3, h4⟩)
      have HC3 := hidW (HTW.out c6 _ _ w3 HBD.out.2.2.2.2.2.2.1.1 (by have := HBD.out.2.2.2.2.2.2.1; omega) h1 (by simp [wrt]) h4 h2 h3)
      obtain ⟨-, o0, o1, o2, o3, o4, o5, o6, o7⟩ := HST.out w3 h3
      clear h1 h2 h3 h4
      go_wp2_with (go_at_call 21; refine HC3.out.mono ?_; rintro e w4 ⟨v4, rfl, h1, h2, h3, h4⟩)
      rw [← HM3.out] at h1
      obtain ⟨q2, k2, hv2⟩ := HEND.out _ _ h1
      go_meet
      case rel => exact ⟨q2, k2, hv2, by rw [← hv2]; exact h1, h2, h4⟩
    · have HM4 : Hid (M = [bt 4 0] ++ [bt c9 0] ++ wrt (c10 / 65536) 2 ++ wrt (c10 % 65536) 2) := hidW (by rw [List.append_assoc _ (wrt (c10 / 65536) 2), wrt4, HM.out]; simp [wrs, offs, wrt])
      have e9 : ((bt c9 0).toNat : Int) = c9 % 256 := by
        have := bt_nat c9 0
        simp only [Nat.zero_mul, Int.pow_zero, Int.ediv_one] at this
        exact this
      have HE9 := hidW e9
      clear e9 o0 o1 o2 o3 o4 o5 o6 o7
      go_upto_region 5 with (at_builtin; refine wpList_append_own _ rfl _ _ 39 rfl (X + 2) 5 i0 (.int .u8 0) 1 1 (by kernel_rfl) HI.out.1 HI.out.2.1 HI.out.2.2.1 HI.out.2.2.2 rfl (by decide) _ _ _ rfl (HV1.out.1.alloc _) ⟨V1.heap.size, 0, none⟩ 1 1 [.int .u8 (c9 % 256)] rfl rfl cell1 (fun u hu => by simp at hu; subst hu; rfl) (by unfold maxLen; simp) (by simp) (by rw [World.size_alloc]; have := HV1.out.2.2.1; omega) ?_; intro v2 w2 ho2 hg2 _)
      have HW2 : Hid (OwnB (X + 2) w2 v2 ([bt 4 0] ++ [bt c9 0]) ∧ Below X w w2 ∧ X + 2 ≤ w2.heap.size ∧ Lib.OthersKept 5 none V w2) := by
        obtain ⟨g1, g2, g3, g4⟩ := HV1.out
        have hgs := hg2.size
        rw [World.size_alloc] at hgs
        exact ⟨own_push (by rw [HE9.out]; exact ho2), (g2.alloc (by omega) _).grown hg2 (by rw [World.size_alloc]; omega) (fun k hk => by have := (g1.lt k hk).1; omega), by omega, (g4.alloc _).grown hg2 (own_kind (g1.alloc _))⟩
      obtain ⟨⟨-, a9, a10⟩, -⟩ := HST.out w2 HW2.out.2.2.2
      have hq0 : 0 ≤ c10 / 65536 := by omega
      have hq1 : c10 / 65536 ≤ 1000000000 := by omega
      have hr0 : 0 ≤ c10 % 65536 := by omega
      have hr1 : c10 % 65536 ≤ 65535 := by omega
      have HC2 := hidW (HTW.out (c10 / 65536) v2 _ w2 hq0 (by omega) HW2.out.1 (by simp) HW2.out.2.2.1 HW2.out.2.1 HW2.out.2.2.2)
      clear ho2 hg2
      go_upto_region 6 with (go_at_call 21; refine HC2.out.mono ?_; rintro e w3 ⟨v3, rfl, h1, h2, h3, h4⟩)
      have HC3 := hidW (HTW.out (c10 % 65536) v3 _ w3 hr0 (by omega) h1 (by simp [wrt]) h4 h2 h3)
      obtain ⟨⟨-, a9, a10⟩, -⟩ := HST.out w3 h3
      clear h1 h2 h3 h4
      go_wp2_with (go_at_call 21; refine HC3.out.mono ?_; rintro e w4 ⟨v4, rfl, h1, h2, h3, h4⟩)
      rw [← HM4.out] at h1
      obtain ⟨q2, k2, hv2⟩ := HEND.out _ _ h1
      go_meet
      case rel => exact ⟨q2, k2, hv2, by rw [← hv2]; exact h1, h2, h4⟩
    · have HM4 : Hid (M = [bt 5 0] ++ [bt c9 0] ++ wrt (c10 / 65536) 2 ++ wrt (c10 % 65536) 2) := hidW (by rw [List.append_assoc _ (wrt (c10 / 65536) 2), wrt4, HM.out]; simp [wrs, offs, wrt])
      have e9 : ((bt c9 0).toNat : Int) = c9 % 256 := by
        have := bt_nat c9 0
        simp only [Nat.zero_mul, Int.pow_zero, Int.ediv_one] at this
        exact this
      have HE9 := hidW e9
      clear e9 o0 o1 o2 o3 o4 o5 o6 o7
      go_upto_region 5 with (at_builtin; refine wpList_append_own _ rfl _ _ 39 rfl (X + 2) 5 i0 (.int .u8 0) 1 1 (by kernel_rfl) HI.out.1 HI.out.2.1 HI.out.2.2.1 HI.out.2.2.2 rfl (by decide) _ _ _ rfl (HV1.out.1.alloc _) ⟨V1.heap.size, 0, none⟩ 1 1 [.int .u8 (c9 % 256)] rfl rfl cell1 (fun u hu => by simp at hu; subst hu; rfl) (by unfold maxLen; simp) (by simp) (by rw [World.size_alloc]; have := HV1.out.2.2.1; omega) ?_; intro v2 w2 ho2 hg2 _)
      have HW2 : Hid (OwnB (X + 2) w2 v2 ([bt 5 0] ++ [bt c9 0]) ∧ Below X w w2 ∧ X + 2 ≤ w2.heap.size ∧ Lib.OthersKept 5 none V w2) := by
        obtain ⟨g1, g2, g3, g4⟩ := HV1.out
        have hgs := hg2.size
        rw [World.size_alloc] at hgs
        exact ⟨own_push (by rw [HE9.out]; exact ho2), (g2.alloc (by omega) _).grown hg2 (by rw [World.size_alloc]; omega) (fun k hk => by have := (g1.lt k hk).1; omega), by omega, (g4.alloc _).grown hg2 (own_kind (g1.alloc _))⟩
      obtain ⟨⟨-, a9, a10⟩, -⟩ := HST.out w2 HW2.out.2.2.2
      have hq0 : 0 ≤ c10 / 65536 := by omega
      have hq1 : c10 / 65536 ≤ 1000000000 := by omega
      have hr0 : 0 ≤ c10 % 65536 := by omega
      have hr1 : c10 % 65536 ≤ 65535 := by omega
      have HC2 := hidW (HTW.out (c10 / 65536) v2 _ w2 hq0 (by omega) HW2.out.1 (by simp) HW2.out.2.2.1 HW2.out.2.1 HW2.out.2.2.2)
      clear ho2 hg2
      go_upto_region 6 with (go_at_call 21; refine HC2.out.mono ?_; rintro e w3 ⟨v3, rfl, h1, h2, h3, h4⟩)
      have HC3 := hidW (HTW.out (c10 % 65536) v3 _ w3 hr0 (by omega) h1 (by simp [wrt]) h4 h2 h3)
      obtain ⟨⟨-, a9, a10⟩, -⟩ := HST.out w3 h3
      clear h1 h2 h3 h4
      go_wp2_with (go_at_call 21; refine HC3.out.mono ?_; rintro e w4 ⟨v4, rfl, h1, h2, h3, h4⟩)
      rw [← HM4.out] at h1
      obtain ⟨q2, k2, hv2⟩ := HEND.out _ _ h1
      go_meet
      case rel => exact ⟨q2, k2, hv2, by rw [← hv2]; exact h1, h2, h4⟩
  case rest =>
  obtain ⟨q4, k4, rfl, HA⟩ := hcut
  have HA2 := hidW HA.out
  clear HA
  clear HV1 HST HBD b0 b9 b10 a0 a9 a10 o0 o1 o2 o3 o4 o5 o6 o7
  have HML := hidW (And.intro HMl.out (sumB_le M))
  obtain ⟨n, hn⟩ : ∃ n, n = M.length := ⟨_, rfl⟩
  have HN := hidW hn
  rw [← hn] at HA2 ⊢
  clear hn hkd'
  go_wp2_with fail
  go_loopg [7, 8] n (fun gg s7 s8 wx => ∃ k : Nat, k ≤ n ∧ n - k ≤ gg ∧ s8 = .int .i64 k ∧ s7 = .int .i64 ((sumB (M.take k) : Nat) : Int) ∧ wc = wx)
  case atStart => exact ⟨0, Nat.zero_le _, by omega, rfl, rfl, rfl⟩
  case round =>
    obtain ⟨k, hk, hg, rfl, rfl, rfl⟩ := hrel
    by_cases hlt : k < n
    · have hltz : (k : Int) < (n : Int) := by omega
      have hin1 : ¬ ((k : Int) < 0) := by omega
      have hlz : k < M.length := by rw [← HN.out]; exact hlt
      have ho := HA2.out.1
      rw [HN.out] at ho
      obtain ⟨g, rfl, hc⟩ := own_byte ho hlz
      have hst := sumB_take hlz
      have hle := sumB_le (M.take k)
      have hll : (M.take k).length = k := by rw [List.length_take]; omega
      have hb : (M[k]!).toNat ≤ 255 := by have := (M[k]!).toNat_lt; omega
      generalize hA : sumB (M.take k) = A at *
      generalize hX2 : M[k]! = x at *
      have hw : wrap64 ((A : Int) + (x.toNat : Int)) = ((A + x.toNat : Nat) : Int) := by have := HML.out.1; have := HN.out; unfold wrap64; omega
      have HW := hidW (And.intro hw hst)
      have hwk : wrap64 ((k : Int) + 1) = ((k + 1 : Nat) : Int) := by have := HML.out.1; have := HN.out; unfold wrap64; omega
      have HK := hidW (And.intro hwk (And.intro hlt hg))
      have hx0 : (0 : Int) ≤ (x.toNat : Int) ∧ (x.toNat : Int) ≤ 255 := by omega
      clear hw hst hwk hle hll hg hk hA hX2 hb ho
      go_wp2_with fail
      go_roundg (n - (k + 1))
      case measure => have := HK.out; omega
      case rel => exact ⟨k + 1, HK.out.2.1, Nat.le_refl _, by first | exact congrArg (Value.int .i64) HK.out.1 | go_num, by rw [HW.out.2]; first | exact congrArg (Value.int .i64) HW.out.1 | go_num, rfl⟩
    · obtain rfl : k = n := by omega
      have hltz : ¬ (k : Int) < (k : Int) := by omega
      have ht : M.take k = M := List.take_of_length_le (by rw [← HN.out]; exact Nat.le_refl _)
      rw [ht]
      have hs : sumB M ≤ 255 * 36 := by have := HML.out; omega
      have hl := last_is M
      obtain ⟨A, hA⟩ : ∃ A, A = sumB M := ⟨_, rfl⟩
      rw [← hA] at hs hl ⊢
      have HL : Hid (((lastB M).toNat : Int) = (A : Int) % 251) := hl
      have h0 : (0 : Int) ≤ (A : Int) := by omega
      have h1 : (A : Int) ≤ 9180 := by omega
      have HO := HA2.out.1
      rw [HN.out] at HO
      have HOO := hidW HO
      clear hk hg hl hs ht hA HO
      go_wp2_with (at_builtin; refine wpList_append_own _ rfl _ _ 39 rfl (X + 2) 5 i0 (.int .u8 0) 1 1 (by kernel_rfl) HI.out.1 HI.out.2.1 HI.out.2.2.1 HI.out.2.2.2 rfl (by decide) _ _ _ (by rw [HN.out]; rfl) (HOO.out.alloc _) ⟨wc.heap.size, 0, none⟩ 1 1 [.int .u8 ((A : Int) % 251)] rfl rfl cell1 (fun u hu => by simp at hu; subst hu; rfl) (by have := HML.out.1; unfold maxLen; omega) (by have := HML.out.1; omega) (by rw [World.size_alloc]; have := HA2.out.2.2; omega) ?_; intro v2 w2 ho2 hg2 _)
      obtain ⟨g2, c2, rfl, hB2⟩ : ∃ g2 c2, v2 = .slice (some ⟨g2, 0, none⟩) R.length c2 ∧ Lib.Bytes w2 g2 0 (tx R) := by
        have ho : w2.ownsRow (X + 2) 5 1 v2 R.length (bCs R) := by
          rw [HR.out, bCs_append, List.length_append]
          show w2.ownsRow (X + 2) 5 1 v2 (M.length + 1) (bCs M ++ [.int .u8 ((lastB M).toNat : Int)])
          rw [HL.out]
          exact ho2
        rcases ho.2 with ⟨h1, h2⟩ | ⟨g, cap, cur, hv, h3⟩
        · rw [HR.out] at h2; simp at h2
        · subst hv
          exact ⟨g, cap, rfl, own_bytes ho⟩
      have HF : Hid (Below X w w2) := by
        obtain ⟨f1, f2, f3⟩ := HA2.out
        exact (f2.alloc (by omega) _).grown hg2 (by rw [World.size_alloc]; omega) (fun k hk => by have := (HOO.out.lt k hk).1; omega)
      have hcv := Lib.run_convert_whole (P := Tryd.prog) w2 39 5 9 (by kernel_rfl) (by kernel_rfl) (by kernel_rfl) g2 0 (tx R) hB2 c2
      rw [tx_size] at hcv
      clear ho2 hg2 hB2
      rw [hcv]
      simp only [Result.andThen]
      rw [Oper.upon_value]
      go_wp2_with fail
      go_ret
      exact ⟨rfl, HF.out⟩
end Go.Proofs.YtndkabnmffgebaaDoor.wir
