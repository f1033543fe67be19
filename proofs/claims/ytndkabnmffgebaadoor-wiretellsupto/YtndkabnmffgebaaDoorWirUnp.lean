/- Contracts over this seat's translation: package wire's Unpack. -/
import Derived.Test.YtndkabnmffgebaaDoorWirCut
import Derived.Test.YtndkabnmffgebaaDoorWirPk
import Derived.Test.YtndkabnmffgebaaDoorWirArg
namespace Go.Proofs.YtndkabnmffgebaaDoor.wir
open Go.RowKit

theorem infoC : ∃ i, Tryd.prog.info? 25 = some i ∧ i.zero = some (cV zero11) ∧ i.size = 11 ∧ i.bytes = 88 := by
  have h : ((Tryd.prog.info? 25).map (fun i => (i.zero, i.size, i.bytes))) = some (some (cV zero11), 11, 88) := by kernel_rfl
  obtain ⟨i, hi, he⟩ := Option.map_eq_some_iff.1 h
  simp only [Prod.mk.injEq] at he
  exact ⟨i, hi, he.1, he.2.1, he.2.2⟩
/-- Commands of the call's own. -/
def flC (zs : List (List Int)) : List Value := zs.flatMap iL
theorem flC_append (a b : List (List Int)) : flC (a ++ b) = flC a ++ flC b := by simp [flC]
abbrev OwnC (B : Nat) (w : World) (v : Value) (zs : List (List Int)) : Prop := w.ownsRow B 25 11 v zs.length (flC zs)
theorem flC_at : ∀ (zs : List (List Int)) (j i : Nat) (v : Value), (∀ x ∈ zs, x.length = 11) → j < zs.length → (iL zs[j]!)[i]? = some v → (flC zs)[j * 11 + i]? = some v
  | [], j, i, v, _, h, _ => by simp at h
  | x :: r, 0, i, v, hl, _, h => by
    have e : flC (x :: r) = iL x ++ flC r := rfl
    have h' : (iL x)[i]? = some v := h
    rw [e, Nat.zero_mul, Nat.zero_add, List.getElem?_append_left (List.getElem?_eq_some_iff.1 h').1]
    exact h'
  | x :: r, j + 1, i, v, hl, hj, h => by
    have e : flC (x :: r) = iL x ++ flC r := rfl
    have hx : (iL x).length = 11 := by rw [iL_length]; exact hl x (List.mem_cons_self ..)
    have h' : (iL r[j]!)[i]? = some v := by simpa using h
    rw [e, List.getElem?_append_right (by omega), hx, show (j + 1) * 11 + i - 11 = j * 11 + i by omega]
    exact flC_at r j i v (fun y hy => hl y (List.mem_cons_of_mem _ hy)) (by simpa using hj) h'
theorem OwnC.reads {B : Nat} {w : World} {v : Value} {zs : List (List Int)} (h : OwnC B w v zs) (hl : ∀ x ∈ zs, x.length = 11) : CX w v zs := by
  have h' := h
  refine ⟨hl, ?_⟩
  rcases h.2 with ⟨h1, h2⟩ | ⟨g, cap, cur, hv, h1, h2, h3, h4, h5, h6⟩
  · exact .inl ⟨h1, List.eq_nil_of_length_eq_zero h2⟩
  · subst hv
    refine .inr ⟨g, 0, cap, rfl, h3, by unfold maxLen at h4; omega, (Array.getElem?_eq_some_iff.1 h2).1, fun j hj i u hu => ?_⟩
    have hi : i < 11 := by
      have := (List.getElem?_eq_some_iff.1 hu).1
      rw [iL_length, getW _ _ hj, hl _ (List.getElem_mem hj)] at this
      exact this
    have e := World.ownsRow.cellAt h' (j * 11 + i) (by omega)
    rw [Nat.zero_add, e]
    exact flC_at zs j i u hl hj hu
theorem OwnC.stays {w w' : World} {B : Nat} {v : Value} {zs : List (List Int)} (h : OwnC B w v zs) (hB : Below w.heap.size w w') : OwnC B w' v zs := by
  refine ⟨h.1, ?_⟩
  rcases h.2 with hn | ⟨g, cap, cur, rfl, hb, hgg, rest⟩
  · exact .inl hn
  · exact .inr ⟨g, cap, cur, rfl, hb, (hB.block g (Array.getElem?_eq_some_iff.1 hgg).1).trans hgg, rest⟩
theorem cellsN {w : World} {e : TypeId} {cs : List Value} : ∀ j y, cs[j]? = some y → (w.alloc (.cells cs.toArray e)).cell? ((⟨w.heap.size, 0, none⟩ : Addr).add j) = some y := by
  intro j y hy
  have hnew := heap_alloc_new w (.cells cs.toArray e)
  have ha : (Addr.add ⟨w.heap.size, 0, none⟩ j) = ⟨w.heap.size, j, none⟩ := by simp [Addr.add_lit]
  rw [ha]
  simp only [World.cell?, hnew, List.getElem?_toArray]
  exact hy
/-- What Unpack tells. -/
def UnpV (w' : World) (e : Ending) : Option (List (List Int)) → Prop
  | some zs => ∃ v, e = .returned (.tuple #[v, .nilIface]) ∧ CX w' v zs
  | none => e = .returned (.tuple #[.slice none 0 0, .iface 49 (.int .i64 2)])

set_option maxRecDepth 100000 in
set_option maxHeartbeats 400000 in
theorem unpack_any (s : ByteArray) (hs : s.size ≤ 9223372036854775807) (w : World) :
    Calls Tryd.prog 13 #[.string s] w fun e w' => UnpV w' e (unp (bl s).length (bl s) 0) ∧ Below w.heap.size w w' := by
  obtain ⟨R, hR⟩ : ∃ R, R = unp (bl s).length (bl s) 0 := ⟨_, rfl⟩
  have HR := hidW hR
  have HS := hidW hs
  obtain ⟨X, hX⟩ : ∃ X, X = w.heap.size := ⟨_, rfl⟩
  have HX := hidW hX
  rw [← hR, ← hX]
  obtain ⟨n, hn⟩ : ∃ n, n = (bl s).length := ⟨_, rfl⟩
  have HN := hidW hn
  obtain ⟨i0, hi, hz0, hz1, hz2⟩ := infoC
  have HI := hidW (And.intro hi (And.intro hz0 (And.intro hz1 hz2)))
  clear hR hs hX hn hi hz0 hz1 hz2
  go_enter Tryd.func13, Tryd.ntmps13
  go_wp2_with fail
  go_loopg [0, 4, 5, 6, 7, 8, 9] n (fun gg s0 s4 s5 s6 s7 s8 s9 wx => ∃ (s' : ByteArray) (zs : List (List Int)), s0 = .string s' ∧ (∃ f, f ≤ gg ∧ (bl s').length ≤ f ∧ (unp f (bl s') zs.length).map (zs ++ ·) = R) ∧ Aside (s'.size ≤ 9223372036854775807 ∧ (∀ x ∈ zs, x.length = 11) ∧ zs.length ≤ 400 ∧ OwnC X wx s4 zs ∧ Below X w wx))
  case atStart => exact ⟨s, [], rfl, ⟨n, Nat.le_refl _, by rw [HN.out]; exact Nat.le_refl _, by rw [HR.out, HN.out]; cases unp (bl s).length (bl s) 0 <;> rfl⟩, HS.out, by simp, by simp, ⟨rfl, .inl ⟨rfl, rfl⟩⟩, by rw [HX.out]; exact Below.refl _ _⟩
  case round =>
    obtain ⟨s', zs, rfl, ⟨f, hfg, hbf, hu⟩, HA⟩ := hrel
    have HA2 := hidW HA.out
    clear HA
    obtain ⟨q4, n4, k4, hu4⟩ : ∃ q n k, u4 = .slice q n k ∧ n = zs.length := by
      obtain ⟨a, b, c⟩ := own_form HA2.out.2.2.2.1
      exact ⟨a, _, b, c, rfl⟩
    obtain ⟨rfl, h4⟩ := hu4
    by_cases h0 : s' = ⟨#[]⟩
    · subst h0
      have hR : R = some zs := by
        rw [← hu]
        have e : bl ⟨#[]⟩ = [] := rfl
        rw [e]
        cases f <;> simp [unp]
      have HR2 := hidW hR
      clear hu hR
      go_wp2_with fail
      go_ret2
      exact ⟨by rw [HR2.out]; exact ⟨_, rfl, OwnC.reads HA2.out.2.2.2.1 HA2.out.2.1⟩, HA2.out.2.2.2.2⟩
    · have hpos := pos_of h0
      have he := full_of hpos
      obtain ⟨h, t, ht⟩ : ∃ h t, bl s' = h :: t := by
        cases hb : bl s' with
        | nil => have := bl_length s'; rw [hb] at this; simp at this; omega
        | cons a r => exact ⟨a, r, rfl⟩
      obtain ⟨f', hf'⟩ : ∃ f', f = f' + 1 := ⟨f - 1, by rw [ht] at hbf; simp at hbf; omega⟩
      subst hf'
      rw [ht] at hbf hu
      have hstep : (unp (f' + 1) (h :: t) zs.length).map (zs ++ ·) = R := hu
      have HB := hidW ht
      by_cases hc : h.toNat ≤ t.length
      rotate_left
      · have hR : R = none := by
          rw [← hstep]
          simp only [unp]
          rw [if_neg (fun a => hc a.1)]
          rfl
        have HR2 := hidW hR
        have HCUT := hidW (cut_bad s' h t HB.out hc HA2.out.1 wr)
        clear hu hstep hR h0 hpos hc
        go_wp2_with (go_at_call 29; refine HCUT.out.mono ?_; rintro e w1 ⟨rfl, hb1⟩)
        go_ret2
        exact ⟨by rw [HR2.out]; rfl, HA2.out.2.2.2.2.trans (hb1.mono (by have := HA2.out.2.2.2.2.size; rw [HX.out]; omega))⟩
      · have HCUT := hidW (cut_good s' h t HB.out hc HA2.out.1 wr)
        have HBW : Hid (∀ w2, Below wr.heap.size wr w2 → (OwnC X w2 (.slice q4 n4 k4) zs ∧ Below X w w2)) := fun w2 hb => ⟨OwnC.stays HA2.out.2.2.2.1 hb, HA2.out.2.2.2.2.trans (hb.mono (by have := HA2.out.2.2.2.2.size; rw [HX.out]; omega))⟩
        by_cases h400 : zs.length = 400
        · have hR : R = none := by
            rw [← hstep]
            simp only [unp]
            rw [if_neg (fun a => a.2 h400)]
            rfl
          have HR2 := hidW hR
          obtain rfl : n4 = 400 := h4.trans h400
          clear hu hstep hR h0 hpos hc h400 h4
          go_wp2_with (go_at_call 29; refine HCUT.out.mono ?_; rintro e w1 ⟨a, b, rfl, ha, hb', hb1⟩)
          go_ret2
          exact ⟨by rw [HR2.out]; rfl, (HBW.out _ hb1).2⟩
        · have hn4 : ¬ ((n4 : Int) = 400) := by omega
          have H400 := hidW (And.intro h400 h4)
          obtain ⟨y, hy⟩ : ∃ y, y = rdC (t.take h.toNat) := ⟨_, rfl⟩
          have hst2 : (y = none → none = R) ∧ (∀ x, y = some x → ((unp f' (t.drop h.toNat) (zs.length + 1)).map (x :: ·)).map (zs ++ ·) = R) := by
            simp only [unp] at hstep
            rw [if_pos ⟨hc, h400⟩, ← hy] at hstep
            refine ⟨fun e => ?_, fun x e => ?_⟩
            · rw [e] at hstep; exact hstep
            · rw [e] at hstep; exact hstep
          have HY := hidW hy
          have HLT : Hid (t.length ≤ f' ∧ f' + 1 ≤ gk) := hidW ⟨by simpa using hbf, hfg⟩
          clear hu hstep h0 hpos hc h400 h4 hy hbf hfg
          cases y with
          | none =>
            have HR2 : Hid (none = R) := hst2.1 rfl
            clear hst2
            go_upto_region 6 with (go_at_call 29; refine HCUT.out.mono ?_; rintro e w1 ⟨a, b, rfl, ha, hb', hb1⟩)
            have HRC := hidW (readc_walk a (by rw [← bl_length, ha, List.length_take]; have := HS.out; have := HA2.out.1; have := bl_length s'; rw [HB.out, List.length_cons] at this; omega) w1)
            rw [ha, ← HY.out] at HRC
            have HRC2 : Hid (Calls Tryd.prog 10 #[.string a] w1 fun e w' => e = .returned (.tuple #[.agg #[.int .i64 0, .int .i64 0, .int .i64 0, .int .i64 0, .int .i64 0, .int .i64 0, .int .i64 0, .int .i64 0, .int .i64 0, .int .i64 0, .int .i64 0], .iface 49 (.int .i64 2)]) ∧ Below w1.heap.size w1 w') := HRC.out
            have HB1 := hidW hb1
            clear HRC ha hb' hb1
            go_wp2_with (go_at_call 10; refine HRC2.out.mono ?_; rintro e w2 ⟨rfl, hb2⟩)
            go_ret2
            exact ⟨by rw [← HR2.out]; rfl, ((HBW.out _ (HB1.out.trans (hb2.mono HB1.out.size))).2.alloc (by have := (HBW.out _ (HB1.out.trans (hb2.mono HB1.out.size))).2.size; rw [HX.out]; exact this) _)⟩
          | some x =>
            have hst3 : ((unp f' (t.drop h.toNat) (zs.length + 1)).map (x :: ·)).map (zs ++ ·) = R := hst2.2 x rfl
            have HST := hidW hst3
            clear hst2 hst3
            go_upto_region 6 with (go_at_call 29; refine HCUT.out.mono ?_; rintro e w1 ⟨a, b, rfl, ha, hb', hb1⟩)
            have HRC := hidW (readc_walk a (by rw [← bl_length, ha, List.length_take]; have := HS.out; have := HA2.out.1; have := bl_length s'; rw [HB.out, List.length_cons] at this; omega) w1)
            rw [ha, ← HY.out] at HRC
            have hx11 := (rdC_some HY.out.symm).1
            have HX11 := hidW hx11
            obtain ⟨c0, c1, c2, c3, c4, c5, c6, c7, c8, c9, c10, hxx⟩ := list11' hx11
            have HXX := hidW hxx
            have HRC2 : Hid (Calls Tryd.prog 10 #[.string a] w1 fun e w' => e = .returned (.tuple #[.agg #[.int .i64 c0, .int .i64 c1, .int .i64 c2, .int .i64 c3, .int .i64 c4, .int .i64 c5, .int .i64 c6, .int .i64 c7, .int .i64 c8, .int .i64 c9, .int .i64 c10], .nilIface]) ∧ Below w1.heap.size w1 w') := by
              have := HRC.out
              rw [hxx] at this
              exact this
            have HB1 := hidW (And.intro hb1 hb')
            clear HRC ha hb' hb1 hx11 hxx
            go_upto_region 9 with (go_at_call 10; refine HRC2.out.mono ?_; rintro e w2 ⟨rfl, hb2⟩)
            obtain ⟨Y, hY⟩ : ∃ Y, Y = w2.heap.size := ⟨_, rfl⟩
            obtain ⟨V2, hV2⟩ : ∃ V2, V2 = w2.alloc (.cells #[.int .i64 c0, .int .i64 c1, .int .i64 c2, .int .i64 c3, .int .i64 c4, .int .i64 c5, .int .i64 c6, .int .i64 c7, .int .i64 c8, .int .i64 c9, .int .i64 c10] 25) := ⟨_, rfl⟩
            have HV2 : Hid (OwnC X V2 (.slice q4 n4 k4) zs ∧ Below X w V2 ∧ X ≤ V2.heap.size) := by
              have g1 := HBW.out _ (HB1.out.1.trans (hb2.mono HB1.out.1.size))
              have hba : Below w2.heap.size w2 V2 := by rw [hV2]; exact (Below.refl _ _).alloc (Nat.le_refl _) _
              have h1 := g1.2.trans (hba.mono (by rw [HX.out]; exact g1.2.size))
              exact ⟨OwnC.stays g1.1 hba, h1, by rw [HX.out]; exact h1.size⟩
            have hcm : Cmd V2 Y [c0, c1, c2, c3, c4, c5, c6, c7, c8, c9, c10] := by rw [hV2, hY]; exact heap_alloc_new _ _
            obtain ⟨a0, a1, a2, a3, a4, a5, a6, a7, a8, a9, a10⟩ := hcm.row
            simp only [← hY]
            simp only [← hV2]
            have HE : Hid (#[.int .i64 c0, .int .i64 c1, .int .i64 c2, .int .i64 c3, .int .i64 c4, .int .i64 c5, .int .i64 c6, .int .i64 c7, .int .i64 c8, .int .i64 c9, .int .i64 c10] = (iL x).toArray) := by rw [HXX.out]; exact hidW rfl
            clear hY hV2 hb2 hcm
            go_wp2_with (at_builtin; refine wpList_append_own _ rfl _ _ 26 rfl X 25 i0 (cV zero11) 11 88 (by kernel_rfl) HI.out.1 HI.out.2.1 HI.out.2.2.1 HI.out.2.2.2 rfl (by decide) _ _ _ rfl (HV2.out.1.alloc _) ⟨V2.heap.size, 0, none⟩ 1 1 (iL x) rfl (by rw [iL_length, HX11.out]) (by rw [HE.out]; exact cellsN) (fun u hu => by simp only [iL, List.mem_map] at hu; obtain ⟨z, _, rfl⟩ := hu; rfl) (by have := HA2.out.2.2.1; unfold maxLen; omega) (by have := HA2.out.2.2.1; omega) (by rw [World.size_alloc]; have := HV2.out.2.2; omega) ?_; intro v' w5 hown' hgr _)
            have HF : Hid (OwnC X w5 v' (zs ++ [x]) ∧ Below X w w5) := by
              refine ⟨?_, ?_⟩
              · show w5.ownsRow X 25 11 v' (zs ++ [x]).length (flC (zs ++ [x]))
                rw [flC_append, List.length_append]
                have e : flC [x] = iL x := by simp [flC]
                rw [e]
                exact hown'
              · exact (HV2.out.2.1.alloc HV2.out.2.2 _).grown hgr (by rw [World.size_alloc]; have := HV2.out.2.2; omega) (fun k hk => (HV2.out.1.lt k hk).1)
            clear hown' hgr a0 a1 a2 a3 a4 a5 a6 a7 a8 a9 a10
            go_wp2_with fail
            go_roundg f'
            case measure => have := HLT.out; omega
            case rel =>
              refine ⟨b, zs ++ [x], rfl, ⟨f', Nat.le_refl _, ?_, ?_⟩, ?_, ?_, ?_, HF.out.1, HF.out.2⟩
              · rw [HB1.out.2, List.length_drop]; have := HLT.out.1; omega
              · rw [HB1.out.2, List.length_append]
                have := HST.out
                rw [Option.map_map] at this
                show (unp f' (t.drop h.toNat) (zs.length + 1)).map (zs ++ [x] ++ ·) = R
                rw [← this]
                congr 1
                funext l
                simp
              · rw [← bl_length, HB1.out.2, List.length_drop]; have := HA2.out.1; have := bl_length s'; rw [HB.out, List.length_cons] at this; omega
              · intro z hz
                rcases List.mem_append.1 hz with hz | hz
                · exact HA2.out.2.1 z hz
                · rw [List.mem_singleton.1 hz]; exact HX11.out
              · rw [List.length_append]; have := HA2.out.2.2.1; have := H400.out.1; show zs.length + 1 ≤ 400; omega
end Go.Proofs.YtndkabnmffgebaaDoor.wir
