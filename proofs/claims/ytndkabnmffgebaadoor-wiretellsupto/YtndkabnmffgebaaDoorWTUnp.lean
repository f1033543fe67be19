/- The document's Unpack, whatever bytes come. -/
import Derived.Test.YtndkabnmffgebaaDoorWTRead
import Derived.Test.YtndkabnmffgebaaDoorWirUnp
namespace Go.Proofs.YtndkabnmffgebaaDoor.wir
open Go.RowKit

/-- What the document's Unpack tells. -/
def RunpV (w' : World) (e : Ending) : Option (List (List Int)) → Prop
  | some zs => ∃ v, e = .returned (.tuple #[v, .bool true]) ∧ CX w' v zs
  | none => e = .returned (.tuple #[.slice none 0 0, .bool false])
theorem wrap_byte {m : Nat} (h : m < 256) : wrap64 (m : Int) = (m : Int) ∧ wrap64 (1 + (m : Int)) = 1 + (m : Int) := by unfold wrap64; omega

set_option maxRecDepth 100000 in
set_option maxHeartbeats 1000000 in
theorem runpack_any (s : ByteArray) (hs : s.size ≤ 2000000) (w : World) :
    Calls Tryd.prog 12 #[.string s] w fun e w' => RunpV w' e (unp (bl s).length (bl s) 0) ∧ Below w.heap.size w w' := by
  obtain ⟨R, hR⟩ : ∃ R, R = unp (bl s).length (bl s) 0 := ⟨_, rfl⟩
  have HR := hidW hR
  have HS := hidW hs
  obtain ⟨X, hX⟩ : ∃ X, X = w.heap.size := ⟨_, rfl⟩
  have HX := hidW hX
  rw [← hR, ← hX]
  obtain ⟨n, hn⟩ : ∃ n, n = (bl s).length := ⟨_, rfl⟩
  have HN := hidW hn
  obtain ⟨i0, hi, hz0, hz1, hz2⟩ := infoC
  have HI := hidW (And.intro hi (And.intro hz0 (And.intro hz1 hz2)))
  clear hR hs hX hn hi hz0 hz1 hz2
  go_enter Tryd.func12, Tryd.ntmps12
  go_wp2_with fail
  go_loopg [0, 4, 5, 6, 7] n (fun gg s0 s4 s5 s6 s7 wx => ∃ (s' : ByteArray) (zs : List (List Int)), s0 = .string s' ∧ (∃ f, f ≤ gg ∧ (bl s').length ≤ f ∧ (unp f (bl s') zs.length).map (zs ++ ·) = R) ∧ Aside (s'.size ≤ 2000000 ∧ (∀ x ∈ zs, x.length = 11) ∧ zs.length ≤ 400 ∧ OwnC X wx s4 zs ∧ Below X w wx))
  case atStart => exact ⟨s, [], rfl, ⟨n, Nat.le_refl _, by rw [HN.out]; exact Nat.le_refl _, by rw [HR.out, HN.out]; cases unp (bl s).length (bl s) 0 <;> rfl⟩, HS.out, by simp, by simp, ⟨rfl, .inl ⟨rfl, rfl⟩⟩, by rw [HX.out]; exact Below.refl _ _⟩
  case round =>
    obtain ⟨s', zs, rfl, ⟨f, hfg, hbf, hu⟩, HA⟩ := hrel
    have HA2 := hidW HA.out
    clear HA
    obtain ⟨q4, n4, k4, hu4⟩ : ∃ q n k, u4 = .slice q n k ∧ n = zs.length := by
      obtain ⟨a, b, c⟩ := own_form HA2.out.2.2.2.1
      exact ⟨a, _, b, c, rfl⟩
    obtain ⟨rfl, h4⟩ := hu4
    by_cases h0 : s' = ⟨#[]⟩
    · subst h0
      have hR : R = some zs := by
        rw [← hu]
        have e : bl ⟨#[]⟩ = [] := rfl
        rw [e]
        cases f <;> simp [unp]
      have HR2 := hidW hR
      clear hu hR
      go_wp2_with fail
      go_ret2
      exact ⟨by rw [HR2.out]; exact ⟨_, rfl, OwnC.reads HA2.out.2.2.2.1 HA2.out.2.1⟩, HA2.out.2.2.2.2⟩
    · have hpos := pos_of h0
      have he := full_of hpos
      obtain ⟨h, t, ht⟩ : ∃ h t, bl s' = h :: t := by
        cases hb : bl s' with
        | nil => have := bl_length s'; rw [hb] at this; simp at this; omega
        | cons a r => exact ⟨a, r, rfl⟩
      obtain ⟨f', hf'⟩ : ∃ f', f = f' + 1 := ⟨f - 1, by rw [ht] at hbf; simp at hbf; omega⟩
      subst hf'
      rw [ht] at hbf hu
      have hstep : (unp (f' + 1) (h :: t) zs.length).map (zs ++ ·) = R := hu
      have HB := hidW ht
      have hl : s'.size = t.length + 1 := by rw [← bl_length, ht]; rfl
      have hz : (0 : Int) < (s'.size : Int) := by omega
      have hb0 : s'[0] = h := by rw [bl_get hpos, ht]; rfl
      obtain ⟨m, hm⟩ : ∃ m, m = h.toNat := ⟨_, rfl⟩
      have hm8 : m < 256 := by rw [hm]; exact h.toNat_lt
      have h0m : (s'[0].toNat : Int) = (m : Int) := by rw [hb0, hm]
      have HL := hidW hl
      have HM := hidW hm
      have HWB := hidW (wrap_byte hm8)
      have hmp : (0 : Int) ≤ (m : Int) := by omega
      clear hu hb0
      by_cases hc : m ≤ t.length
      rotate_left
      · have hR : R = none := by
          rw [← hstep]
          simp only [unp]
          rw [if_neg (fun a => hc (by rw [hm]; exact a.1))]
          rfl
        have HR2 := hidW hR
        have hgt : (s'.size : Int) < 1 + (m : Int) := by omega
        clear hstep hR h0 hc hbf hfg hl hm hm8 h4
        obtain ⟨hw0, hw1⟩ := HWB.out
        go_upto_region 4 with fail
        try simp only [hw0, hw1]
        go_wp2_with fail
        go_ret2
        exact ⟨by rw [HR2.out]; rfl, HA2.out.2.2.2.2⟩
      · have hgt : ¬ ((s'.size : Int) < 1 + (m : Int)) := by omega
        have hgt2 : 1 + (m : Int) ≤ (s'.size : Int) := by omega
        have h1m : (1 : Int) ≤ 1 + (m : Int) := by omega
        have h00 : (0 : Int) ≤ 1 + (m : Int) := by omega
        by_cases h400 : zs.length = 400
        · have hR : R = none := by
            rw [← hstep]
            simp only [unp]
            rw [if_neg (fun a => a.2 h400)]
            rfl
          have HR2 := hidW hR
          obtain rfl : n4 = 400 := h4.trans h400
          clear hstep hR h0 hc h400 h4 hbf hfg hl hm hm8
          obtain ⟨hw0, hw1⟩ := HWB.out
          go_upto_region 4 with fail
          try simp only [hw0, hw1]
          go_wp2_with fail
          go_ret2
          exact ⟨by rw [HR2.out]; rfl, HA2.out.2.2.2.2⟩
        · have hn4 : ¬ ((n4 : Int) = 400) := by omega
          have H400 := hidW (And.intro h400 h4)
          have HC := hidW hc
          obtain ⟨a, ha⟩ : ∃ a, a = s'.extract 1 (1 + m) := ⟨_, rfl⟩
          obtain ⟨b, hb⟩ : ∃ b, b = s'.extract (1 + m) s'.size := ⟨_, rfl⟩
          have hba : bl a = t.take m := by rw [ha, bl_extract, ht, show 1 + m - 1 = m by omega]; rfl
          have hbb : bl b = t.drop m := by rw [hb, bl_tail, ht, show 1 + m = m + 1 by omega]; rfl
          have HAB := hidW (And.intro hba hbb)
          have hasz : a.size ≤ 2000000 := by rw [← bl_length, hba, List.length_take]; have := HA2.out.1; omega
          have HRC := hidW (fun W => rread_any a hasz W)
          rw [hba] at HRC
          obtain ⟨y, hy⟩ : ∃ y, y = rdC (t.take m) := ⟨_, rfl⟩
          rw [← hy] at HRC
          have hst2 : (y = none → none = R) ∧ (∀ x, y = some x → ((unp f' (t.drop m) (zs.length + 1)).map (x :: ·)).map (zs ++ ·) = R) := by
            simp only [unp] at hstep
            rw [if_pos ⟨by rw [← hm]; exact hc, h400⟩, ← hm, ← hy] at hstep
            refine ⟨fun e => ?_, fun x e => ?_⟩
            · rw [e] at hstep; exact hstep
            · rw [e] at hstep; exact hstep
          have HY := hidW hy
          have HLT : Hid (t.length ≤ f' ∧ f' + 1 ≤ gk) := hidW ⟨by simpa using hbf, hfg⟩
          have HBW : Hid (∀ w2, Below wr.heap.size wr w2 → (OwnC X w2 (.slice q4 n4 k4) zs ∧ Below X w w2)) := fun w2 hb => ⟨OwnC.stays HA2.out.2.2.2.1 hb, HA2.out.2.2.2.2.trans (hb.mono (by have := HA2.out.2.2.2.2.size; rw [HX.out]; omega))⟩
          have HEX := hidW (And.intro ha hb)
          clear hstep h0 hc h400 h4 hy hbf hfg hl hm hm8 hba hbb hasz hb
          cases y with
          | none =>
            have HR2 : Hid (none = R) := hst2.1 rfl
            have HRC2 : Hid (∀ W, Calls Tryd.prog 9 #[.string a] W fun e w' => e = .returned (.tuple #[.agg #[.int .i64 0, .int .i64 0, .int .i64 0, .int .i64 0, .int .i64 0, .int .i64 0, .int .i64 0, .int .i64 0, .int .i64 0, .int .i64 0, .int .i64 0], .bool false]) ∧ Below W.heap.size W w') := HRC.out
            clear hst2 HRC
            obtain ⟨hw0, hw1⟩ := HWB.out
            go_upto_region 6 with fail
            try simp only [hw0, hw1]
            go_wp2_with (go_at_call 9; simp only [← ha]; refine (HRC2.out _).mono ?_; rintro e w2 ⟨rfl, hb2⟩)
            go_ret2
            exact ⟨by rw [← HR2.out]; rfl, ((HBW.out _ hb2).2.alloc (by have := (HBW.out _ hb2).2.size; rw [HX.out]; exact this) _)⟩
          | some x =>
            have hst3 : ((unp f' (t.drop m) (zs.length + 1)).map (x :: ·)).map (zs ++ ·) = R := hst2.2 x rfl
            have HST := hidW hst3
            have hx11 := (rdC_some HY.out.symm).1
            have HX11 := hidW hx11
            obtain ⟨c0, c1, c2, c3, c4, c5, c6, c7, c8, c9, c10, hxx⟩ := list11' hx11
            have HXX := hidW hxx
            have HRC2 : Hid (∀ W, Calls Tryd.prog 9 #[.string a] W fun e w' => e = .returned (.tuple #[.agg #[.int .i64 c0, .int .i64 c1, .int .i64 c2, .int .i64 c3, .int .i64 c4, .int .i64 c5, .int .i64 c6, .int .i64 c7, .int .i64 c8, .int .i64 c9, .int .i64 c10], .bool true]) ∧ Below W.heap.size W w') := by
              have := HRC.out
              rw [hxx] at this
              exact this
            clear HRC hst2 hst3 hx11 hxx
            obtain ⟨hw0, hw1⟩ := HWB.out
            go_upto_region 6 with fail
            try simp only [hw0, hw1]
            go_upto_region 7 with (go_at_call 9; simp only [← ha]; refine (HRC2.out _).mono ?_; rintro e w2 ⟨rfl, hb2⟩)
            clear hw0 hw1
            obtain ⟨Y, hY⟩ : ∃ Y, Y = w2.heap.size := ⟨_, rfl⟩
            obtain ⟨V2, hV2⟩ : ∃ V2, V2 = w2.alloc (.cells #[.int .i64 c0, .int .i64 c1, .int .i64 c2, .int .i64 c3, .int .i64 c4, .int .i64 c5, .int .i64 c6, .int .i64 c7, .int .i64 c8, .int .i64 c9, .int .i64 c10] 25) := ⟨_, rfl⟩
            have HV2 : Hid (OwnC X V2 (.slice q4 n4 k4) zs ∧ Below X w V2 ∧ X ≤ V2.heap.size) := by
              have g1 := HBW.out _ hb2
              have hba : Below w2.heap.size w2 V2 := by rw [hV2]; exact (Below.refl _ _).alloc (Nat.le_refl _) _
              have h1 := g1.2.trans (hba.mono (by rw [HX.out]; exact g1.2.size))
              exact ⟨OwnC.stays g1.1 hba, h1, by rw [HX.out]; exact h1.size⟩
            have hcm : Cmd V2 Y [c0, c1, c2, c3, c4, c5, c6, c7, c8, c9, c10] := by rw [hV2, hY]; exact heap_alloc_new _ _
            obtain ⟨a0, a1, a2, a3, a4, a5, a6, a7, a8, a9, a10⟩ := hcm.row
            simp only [← hY]
            simp only [← hV2]
            have HE : Hid (#[.int .i64 c0, .int .i64 c1, .int .i64 c2, .int .i64 c3, .int .i64 c4, .int .i64 c5, .int .i64 c6, .int .i64 c7, .int .i64 c8, .int .i64 c9, .int .i64 c10] = (iL x).toArray) := by rw [HXX.out]; exact hidW rfl
            clear hY hV2 hb2 hcm
            go_upto_region 10 with (at_builtin; refine wpList_append_own _ rfl _ _ 26 rfl X 25 i0 (cV zero11) 11 88 (by kernel_rfl) HI.out.1 HI.out.2.1 HI.out.2.2.1 HI.out.2.2.2 rfl (by decide) _ _ _ rfl (HV2.out.1.alloc _) ⟨V2.heap.size, 0, none⟩ 1 1 (iL x) rfl (by rw [iL_length, HX11.out]) (by rw [HE.out]; exact cellsN) (fun u hu => by simp only [iL, List.mem_map] at hu; obtain ⟨z, _, rfl⟩ := hu; rfl) (by have := HA2.out.2.2.1; unfold maxLen; omega) (by have := HA2.out.2.2.1; omega) (by rw [World.size_alloc]; have := HV2.out.2.2; omega) ?_; intro v' w5 hown' hgr _)
            have HF : Hid (OwnC X w5 v' (zs ++ [x]) ∧ Below X w w5) := by
              refine ⟨?_, ?_⟩
              · show w5.ownsRow X 25 11 v' (zs ++ [x]).length (flC (zs ++ [x]))
                rw [flC_append, List.length_append]
                have e : flC [x] = iL x := by simp [flC]
                rw [e]
                exact hown'
              · exact (HV2.out.2.1.alloc HV2.out.2.2 _).grown hgr (by rw [World.size_alloc]; have := HV2.out.2.2; omega) (fun k hk => (HV2.out.1.lt k hk).1)
            clear hown' hgr a0 a1 a2 a3 a4 a5 a6 a7 a8 a9 a10
            go_wp2_with fail
            go_roundg f'
            case measure => have := HLT.out; omega
            case rel =>
              refine ⟨b, zs ++ [x], congrArg Value.string HEX.out.2.symm, ⟨f', Nat.le_refl _, ?_, ?_⟩, ?_, ?_, ?_, HF.out.1, HF.out.2⟩
              · rw [HAB.out.2, List.length_drop]; have := HLT.out.1; omega
              · rw [HAB.out.2, List.length_append]
                have := HST.out
                rw [Option.map_map] at this
                show (unp f' (t.drop m) (zs.length + 1)).map (zs ++ [x] ++ ·) = R
                rw [← this]
                congr 1
                funext l
                simp
              · rw [← bl_length, HAB.out.2, List.length_drop]; have := HA2.out.1; have := HL.out; omega
              · intro z hz
                rcases List.mem_append.1 hz with hz | hz
                · exact HA2.out.2.1 z hz
                · rw [List.mem_singleton.1 hz]; exact HX11.out
              · rw [List.length_append]; have := HA2.out.2.2.1; have := H400.out.1; show zs.length + 1 ≤ 400; omega
end Go.Proofs.YtndkabnmffgebaaDoor.wir
