/- Contracts over this seat's translation: package wire's Command. -/
import Derived.Test.YtndkabnmffgebaaDoorWirCk
import Derived.Test.YtndkabnmffgebaaDoorWirRd
import Derived.Lib.SlBytesRow
namespace Go.Proofs.YtndkabnmffgebaaDoor.wir
open Go.RowKit
open Go.Proofs.YtndkabnmffgebaaDoor.ord (errV errV_zero errV_of)

theorem wrs_take {xs : List Int} {fs : List (Nat × Nat)} {k : Nat} (h : k < fs.length) : wrs xs (fs.take (k + 1)) = wrs xs (fs.take k) ++ wrt (xs[(fs[k]!).1]!) (fs[k]!).2 := by
  unfold wrs
  rw [List.take_succ_eq_append_getElem h, List.flatMap_append, getW _ _ h]
  simp
theorem wrs_length (xs : List Int) (fs : List (Nat × Nat)) (h : ∀ f ∈ fs, f.1 < 11 ∧ f.2 ≤ 4) : (wrs xs fs).length ≤ 4 * fs.length := by
  induction fs with
  | nil => simp [wrs]
  | cons f r ih =>
    have := ih fun g hg => h g (List.mem_cons_of_mem _ hg)
    have h2 := (h f (List.mem_cons_self ..)).2
    have e : wrs xs (f :: r) = wrt (xs[f.1]!) f.2 ++ wrs xs r := rfl
    rw [e, List.length_append, wrt_length, List.length_cons]
    omega
/-- Bytes as a text. -/
def tx (l : List UInt8) : ByteArray := ⟨l.toArray⟩
theorem tx_size (l : List UInt8) : (tx l).size = l.length := by simp [tx, ByteArray.size]
theorem bl_tx (l : List UInt8) : bl (tx l) = l := by simp [bl, tx]
theorem tx_bl (s : ByteArray) : tx (bl s) = s := by
  apply ByteArray.ext
  simp [bl, tx]
theorem tx_inj {a b : List UInt8} (h : tx a = tx b) : a = b := (bl_tx a).symm.trans ((congrArg bl h).trans (bl_tx b))
/-- What Command tells. -/
def cmdS (xs : List Int) : ByteArray := if cchk xs = 0 then tx (enc xs) else ⟨#[]⟩
theorem own_bytes {w : World} {B g c : Nat} {l : List UInt8} (h : w.ownsRow B 5 1 (.slice (some ⟨g, 0, none⟩) l.length c) l.length (bCs l)) : Lib.Bytes w g 0 (tx l) := by
  intro i hi
  have hil : i < l.length := by rw [← tx_size]; exact hi
  have := World.ownsRow.cellAt h i (by omega)
  rw [Nat.zero_add, this]
  simp only [bCs, List.getElem?_map, List.getElem?_eq_getElem hil, Option.map_some]
  congr 2

set_option maxRecDepth 100000 in
set_option maxHeartbeats 400000 in
theorem command_bad (xs : List Int) (hl : xs.length = 11) (w : World) (hbad : ¬ cchk xs = 0) :
    Calls Tryd.prog 8 #[cV xs] w fun e w' => e = .returned (.tuple #[.string ⟨#[]⟩, .iface 49 (.int .i64 (cchk xs))]) ∧ Below w.heap.size w w' := by
  obtain ⟨X, hX⟩ : ∃ X, X = w.heap.size := ⟨_, rfl⟩
  obtain ⟨V, hV⟩ : ∃ V, V = w.alloc (.cells (iL xs).toArray 25) := ⟨_, rfl⟩
  have HV : Hid (Below X w V ∧ Cmd V X xs) := by
    subst hV hX
    exact ⟨(Below.refl _ _).alloc (Nat.le_refl _) _, heap_alloc_new _ _⟩
  have HX := hidW hX
  obtain ⟨E, hE⟩ : ∃ E, E = cchk xs := ⟨_, rfl⟩
  have HCK : Hid (∀ W, Calls Tryd.prog 6 #[cV xs] W fun e w' => e = .returned (.iface 49 (.int .i64 E)) ∧ Below W.heap.size W w') := fun W => by
    have := check_any xs hl W
    rw [errV_of hbad, ← hE] at this
    exact this
  rw [← hE, ← hX]
  clear hE hbad
  obtain ⟨c0, c1, c2, c3, c4, c5, c6, c7, c8, c9, c10, hxs⟩ := list11' hl
  have hcv : cV xs = .agg #[.int .i64 c0, .int .i64 c1, .int .i64 c2, .int .i64 c3, .int .i64 c4, .int .i64 c5, .int .i64 c6, .int .i64 c7, .int .i64 c8, .int .i64 c9, .int .i64 c10] := by rw [hxs]; rfl
  have hiv : (iL xs).toArray = #[.int .i64 c0, .int .i64 c1, .int .i64 c2, .int .i64 c3, .int .i64 c4, .int .i64 c5, .int .i64 c6, .int .i64 c7, .int .i64 c8, .int .i64 c9, .int .i64 c10] := by rw [hxs]; rfl
  rw [hiv] at hV
  rw [hcv] at HCK ⊢
  have HCM := hidW HV.out.2
  rw [hxs] at HCM
  obtain ⟨a0, a1, a2, a3, a4, a5, a6, a7, a8, a9, a10⟩ := HCM.out.row
  clear hxs hcv hiv hl
  go_enter Tryd.func8, Tryd.ntmps8
  go_upto_region 1 with fail
  simp only [← hX]
  simp only [← hV]
  clear hX hV
  go_wp2_with (go_at_call 6; refine (HCK.out _).mono ?_; rintro e w1 ⟨rfl, hb1⟩)
  go_ret2
  exact ⟨rfl, HV.out.1.trans (hb1.mono (by have := HCM.out.lt; omega))⟩

set_option maxRecDepth 100000 in
set_option maxHeartbeats 400000 in
theorem command_good (xs : List Int) (hl : xs.length = 11) (w : World) (hok : cchk xs = 0) :
    Calls Tryd.prog 8 #[cV xs] w fun e w' => e = .returned (.tuple #[.string (tx (enc xs)), .nilIface]) ∧ Below w.heap.size w w' := by
  obtain ⟨X, hX⟩ : ∃ X, X = w.heap.size := ⟨_, rfl⟩
  obtain ⟨V, hV⟩ : ∃ V, V = w.alloc (.cells (iL xs).toArray 25) := ⟨_, rfl⟩
  have HV : Hid (Below X w V ∧ Cmd V X xs ∧ V.heap.size = X + 1) := by
    subst hV hX
    exact ⟨(Below.refl _ _).alloc (Nat.le_refl _) _, heap_alloc_new _ _, by simp⟩
  have HX := hidW hX
  have HL := hidW hl
  have HCK : Hid (∀ W, Calls Tryd.prog 6 #[cV xs] W fun e w' => e = .returned .nilIface ∧ Below W.heap.size W w') := fun W => by
    have := check_any xs hl W
    rw [hok, errV_zero] at this
    exact this
  have HFL : Hid (∀ W, Cmd W X xs → Calls Tryd.prog 22 #[.pointer (some ⟨X, 0, none⟩)] W fun e w' => ∃ v', e = .returned v' ∧ OwnF W.heap.size w' v' X (offs (xs[0]!)) ∧ Below W.heap.size W w') :=
    fun W hW => fields_any X _ _ W hW (by rw [List.getElem?_toArray]; exact iL_at (by omega))
  obtain ⟨fs, hfs⟩ : ∃ fs, fs = offs (xs[0]!) := ⟨_, rfl⟩
  have HFS : Hid ((∀ f ∈ fs, f.1 < 11 ∧ f.2 ≤ 4) ∧ fs.length ≤ 9) := by rw [hfs]; exact ⟨offs_small _, offs_length _⟩
  rw [← hfs] at HFL
  obtain ⟨R, hR⟩ : ∃ R, R = enc xs := ⟨_, rfl⟩
  have HR : Hid (R = wrs xs fs ++ [lastB (wrs xs fs)]) := by rw [hR, hfs]; exact hidW rfl
  rw [← hR, ← hX]
  clear hok hfs hR
  obtain ⟨c0, c1, c2, c3, c4, c5, c6, c7, c8, c9, c10, hxs⟩ := list11' hl
  have hcv : cV xs = .agg #[.int .i64 c0, .int .i64 c1, .int .i64 c2, .int .i64 c3, .int .i64 c4, .int .i64 c5, .int .i64 c6, .int .i64 c7, .int .i64 c8, .int .i64 c9, .int .i64 c10] := by rw [hxs]; rfl
  have hiv : (iL xs).toArray = #[.int .i64 c0, .int .i64 c1, .int .i64 c2, .int .i64 c3, .int .i64 c4, .int .i64 c5, .int .i64 c6, .int .i64 c7, .int .i64 c8, .int .i64 c9, .int .i64 c10] := by rw [hxs]; rfl
  rw [hiv] at hV
  rw [hcv] at HCK ⊢
  have HCM := hidW HV.out.2.1
  rw [hxs] at HCM
  obtain ⟨a0, a1, a2, a3, a4, a5, a6, a7, a8, a9, a10⟩ := HCM.out.row
  clear hxs hcv hiv hl
  go_enter Tryd.func8, Tryd.ntmps8
  go_upto_region 1 with fail
  simp only [← hX]
  simp only [← hV]
  clear hX hV
  go_upto_region 5 with (go_at_call 6; refine (HCK.out _).mono ?_; rintro e w0 ⟨rfl, hb0⟩)
  have HV0 : Hid (Below X w w0 ∧ Cmd w0 X xs ∧ X + 1 ≤ w0.heap.size) := ⟨HV.out.1.trans (hb0.mono (by have := HV.out.2.2; omega)), HV.out.2.1.below hb0, by have := hb0.size; have := HV.out.2.2; omega⟩
  clear hb0 a0 a1 a2 a3 a4 a5 a6 a7 a8 a9 a10 HCK HV HCM
  go_wp2_with (go_at_call 22; refine (HFL.out _ HV0.out.2.1).mono ?_; rintro e w1 ⟨v1, rfl, ho1, hb1⟩; obtain ⟨q1, k1, rfl⟩ := own_form ho1)
  have HW1 : Hid (Below X w w1 ∧ Cmd w1 X xs ∧ X + 1 ≤ w1.heap.size ∧ OwnF (X + 1) w1 (.slice q1 fs.length k1) X fs) := by
    obtain ⟨h1, h2, h3⟩ := HV0.out
    exact ⟨h1.trans (hb1.mono (by omega)), h2.below hb1, by have := hb1.size; omega, ho1.mono h3⟩
  clear ho1 hb1 HFL
  obtain ⟨n, hn⟩ : ∃ n, n = fs.length := ⟨_, rfl⟩
  have HN := hidW hn
  rw [← hn]
  clear hn
  go_loopg [5, 7, 15] n (fun gg s5 s7 s15 wx => ∃ k : Nat, k ≤ n ∧ n - k ≤ gg ∧ s15 = .int .i64 k ∧ Aside (Below X w wx ∧ Cmd wx X xs ∧ X + 1 ≤ wx.heap.size ∧ OwnF (X + 1) wx (.slice q1 fs.length k1) X fs ∧ OwnB (X + 1) wx s5 (wrs xs (fs.take k))))
  case atStart => exact ⟨0, Nat.zero_le _, by omega, rfl, HW1.out.1, HW1.out.2.1, HW1.out.2.2.1, HW1.out.2.2.2, ⟨rfl, .inl ⟨rfl, rfl⟩⟩⟩
  case round =>
    obtain ⟨k, hk, hg, rfl, HA⟩ := hrel
    have HA2 := hidW HA.out
    clear HA
    by_cases hlt : k < n
    · have hltz : (k : Int) < (n : Int) := by omega
      have hin1 : ¬ ((k : Int) < 0) := by omega
      have hlz : k < fs.length := by rw [← HN.out]; exact hlt
      obtain ⟨g, rfl, hgB, hgl, e0, e1⟩ := own_fld HA2.out.2.2.2.1 hlz
      have hwk : wrap64 ((k : Int) + 1) = ((k + 1 : Nat) : Int) := by have := HN.out; have := HFS.out.2; unfold wrap64; omega
      have HK := hidW (And.intro hwk (And.intro hlt hg))
      have hf11 := HFS.out.1 (fs[k]!) (by rw [getW _ _ hlz]; exact List.getElem_mem hlz)
      have hwt := wrs_take (xs := xs) hlz
      have hlen := wrs_length xs (fs.take k) (fun f hf => HFS.out.1 f (List.mem_of_mem_take hf))
      have hln : (wrs xs (fs.take k)).length ≤ 36 := by have := HFS.out.2; rw [List.length_take] at hlen; omega
      obtain ⟨p, hp⟩ : ∃ p, p = fs[k]! := ⟨_, rfl⟩
      rw [← hp] at e0 e1 hwt hf11
      obtain ⟨po, ps⟩ := p
      have HP := hidW (And.intro hwt (And.intro hf11 hln))
      clear hp hwt hf11 hln hlen hwk hg hk hgB hgl
      go_upto_region 8 with fail
      obtain ⟨Y, hY⟩ : ∃ y, y = wr.heap.size := ⟨_, rfl⟩
      obtain ⟨V4, hV4⟩ : ∃ V, V = wr.alloc (.cells #[.pointer (some ⟨X, po, none⟩), .int .i64 ps] 59) := ⟨_, rfl⟩
      have hb4 : Below wr.heap.size wr V4 := by rw [hV4]; exact (Below.refl _ _).alloc (Nat.le_refl _) _
      have hk4 : Lib.OthersKept 5 none wr V4 := by rw [hV4]; exact (Lib.OthersKept.refl _ _ _).alloc _
      have hR4 : V4.heap[Y]? = some (.cells #[.pointer (some ⟨X, po, none⟩), .int .i64 ps] 59 (0, 0)) := by rw [hV4, hY]; exact heap_alloc_new wr _
      have e4 : V4.cell? ⟨Y, 0, none⟩ = some (.pointer (some ⟨X, po, none⟩)) := by simp [World.cell?, hR4]
      have e5 : V4.cell? ⟨Y, 1, none⟩ = some (.int .i64 ps) := by simp [World.cell?, hR4]
      have HB4 : Hid (Below X w V4 ∧ Cmd V4 X xs ∧ X + 1 ≤ V4.heap.size ∧ OwnF (X + 1) V4 (.slice (some ⟨g, 0, none⟩) fs.length k1) X fs) := by
        obtain ⟨h1, h2, h3, h4, h5⟩ := HA2.out
        exact ⟨h1.trans (hb4.mono (by omega)), h2.below hb4, by have := hb4.size; omega, h4.stays hk4⟩
      have HWR : Hid (Calls Tryd.prog 23 #[.agg #[.pointer (some ⟨X, po, none⟩), .int .i64 ps], u5] V4
          fun e w' => ∃ v', e = .returned v' ∧ OwnB (X + 1) w' v' (wrs xs (fs.take k) ++ wrt (xs[po]!) ps) ∧ Below (X + 1) V4 w' ∧ Lib.OthersKept 5 none V4 w') :=
        write_any (X + 1) X po ps (xs[po]!) u5 (wrs xs (fs.take k)) V4 HB4.out.2.2.1 (by have := HP.out.2.1.2; omega) ⟨_, _, HB4.out.2.1, by decide, by rw [List.getElem?_toArray]; exact iL_at (by rw [HL.out]; exact HP.out.2.1.1)⟩ (by rw [hV4]; exact World.ownsRow.alloc HA2.out.2.2.2.2 _) (by have := HP.out.2.2; have := HP.out.2.1.2; omega)
      simp only [← hY, ← hV4]
      clear hY hV4 hb4 hk4 hR4 e0 e1
      go_wp2_with (go_at_call 23; refine HWR.out.mono ?_; rintro e w5 ⟨v5, rfl, ho5, hb5, hk5⟩)
      have HF : Hid (Below X w w5 ∧ Cmd w5 X xs ∧ X + 1 ≤ w5.heap.size ∧ OwnF (X + 1) w5 (.slice (some ⟨g, 0, none⟩) fs.length k1) X fs ∧ OwnB (X + 1) w5 v5 (wrs xs (fs.take (k + 1)))) := by
        obtain ⟨h1, h2, h3, h4⟩ := HB4.out
        exact ⟨h1.trans (hb5.mono (by omega)), h2.stays hk5, by have := hb5.size; omega, h4.stays hk5, by rw [HP.out.1]; exact ho5⟩
      clear ho5 hb5 hk5 HWR HB4 e4 e5
      go_wp2_with fail
      go_roundg (n - (k + 1))
      case measure => have := HK.out; omega
      case rel => exact ⟨k + 1, HK.out.2.1, Nat.le_refl _, by first | exact congrArg (Value.int .i64) HK.out.1 | go_num, HF.out⟩
    · obtain rfl : k = n := by omega
      have hltz : ¬ (k : Int) < (k : Int) := by omega
      have ht : fs.take k = fs := List.take_of_length_le (by rw [← HN.out]; exact Nat.le_refl _)
      rw [ht] at HA2
      have hlen := wrs_length xs fs HFS.out.1
      have HLN : Hid ((wrs xs fs).length ≤ 36) := by have := HFS.out.2; exact hidW (by omega)
      clear hk hg ht hlen
      obtain ⟨q5, n5, k5, hu5⟩ : ∃ q n k, u5 = .slice q n k := by
        obtain ⟨a, b, c⟩ := own_form HA2.out.2.2.2.2
        exact ⟨a, _, b, c⟩
      subst hu5
      obtain ⟨i0, hi, hz0, hz1, hz2⟩ := infoU
      have HI := hidW (And.intro hi (And.intro hz0 (And.intro hz1 hz2)))
      clear hi hz0 hz1 hz2
      have HSM := hidW (sum_any (X + 1) _ (wrs xs fs) wr HA2.out.2.2.2.2 (by have := HLN.out; omega))
      go_wp2_with (first | (go_at_call 24; refine HSM.out.mono ?_; rintro e w6 ⟨rfl, h6⟩; have h6 := h6.symm; subst h6) | (at_builtin; refine wpList_append_own _ rfl _ _ 39 rfl (X + 1) 5 i0 (.int .u8 0) 1 1 (by kernel_rfl) HI.out.1 HI.out.2.1 HI.out.2.2.1 HI.out.2.2.2 rfl (by decide) _ _ _ rfl (HA2.out.2.2.2.2.alloc _) ⟨wr.heap.size, 0, none⟩ 1 1 [.int .u8 ((lastB (wrs xs fs)).toNat : Int)] rfl rfl cell1 (fun u hu => by simp at hu; subst hu; rfl) (by have := HLN.out; unfold maxLen; omega) (by have := HLN.out; omega) (by rw [World.size_alloc]; have := HA2.out.2.2.1; omega) ?_; intro v' w2 hown' hgr _))
      obtain ⟨g2, c2, rfl, hB2⟩ : ∃ g2 c2, v' = .slice (some ⟨g2, 0, none⟩) R.length c2 ∧ Lib.Bytes w2 g2 0 (tx R) := by
        have ho : w2.ownsRow (X + 1) 5 1 v' R.length (bCs R) := by
          rw [HR.out, bCs_append, List.length_append]
          exact hown'
        rcases ho.2 with ⟨h1, h2⟩ | ⟨g, cap, cur, hv, h3⟩
        · rw [HR.out] at h2; simp at h2
        · subst hv
          exact ⟨g, cap, rfl, own_bytes ho⟩
      have HF : Hid (Below X w w2) := by
        obtain ⟨f1, f2, f3, f4, f5⟩ := HA2.out
        exact (f1.alloc (by omega) _).grown hgr (by rw [World.size_alloc]; omega) (fun k hk => by have := (f5.lt k hk).1; omega)
      have hcv := Lib.run_convert_whole (P := Tryd.prog) w2 39 5 9 (by kernel_rfl) (by kernel_rfl) (by kernel_rfl) g2 0 (tx R) hB2 c2
      rw [tx_size] at hcv
      clear hown' hgr hB2
      rw [hcv]
      simp only [Result.andThen]
      rw [Oper.upon_value]
      go_wp2_with fail
      go_ret2
      exact ⟨rfl, HF.out⟩
/-- Command: the error, or the bytes. -/
theorem command_any (xs : List Int) (hl : xs.length = 11) (w : World) :
    Calls Tryd.prog 8 #[cV xs] w fun e w' => e = .returned (.tuple #[.string (cmdS xs), errV (cchk xs)]) ∧ Below w.heap.size w w' := by
  by_cases h : cchk xs = 0
  · refine (command_good xs hl w h).mono ?_
    rintro e w' ⟨rfl, hb⟩
    exact ⟨by rw [h, errV_zero, cmdS, if_pos h], hb⟩
  · refine (command_bad xs hl w h).mono ?_
    rintro e w' ⟨rfl, hb⟩
    exact ⟨by rw [errV_of h, cmdS, if_neg h], hb⟩
end Go.Proofs.YtndkabnmffgebaaDoor.wir
