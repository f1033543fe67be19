/- Contracts over this seat's translation: package wire's (field).read. -/
import Derived.Test.YtndkabnmffgebaaDoorWirRow
import Derived.Test.YtndkabnmffgebaaDoorWirPure
import Derived.Laws.BitsLemmas
namespace Go.Proofs.YtndkabnmffgebaaDoor.wir
open Go.RowKit

theorem vl_take {l : List UInt8} {k : Nat} (h : k < l.length) : vl (l.take (k + 1)) = vl (l.take k) * 256 + ((l[k]!).toNat : Int) := by
  unfold vl
  rw [List.take_succ_eq_append_getElem h, List.foldl_append, getW _ _ h]
  rfl
theorem vl_bound (l : List UInt8) : 0 ≤ vl l ∧ vl l < 256 ^ l.length := by
  have key : ∀ (l : List UInt8) (a : Int) (m : Nat), 0 ≤ a → a < 256 ^ m → 0 ≤ l.foldl (fun n b => n * 256 + (b.toNat : Int)) a ∧ l.foldl (fun n b => n * 256 + (b.toNat : Int)) a < 256 ^ (m + l.length) := by
    intro l
    induction l with
    | nil => intro a m h0 h1; exact ⟨h0, h1⟩
    | cons b r ih =>
      intro a m h0 h1
      have hb := b.toNat_lt
      have e : (256 : Int) ^ (m + 1) = 256 ^ m * 256 := by rw [Int.pow_succ]
      have := ih (a * 256 + (b.toNat : Int)) (m + 1) (by omega) (by rw [e]; omega)
      rw [List.length_cons, show m + (r.length + 1) = m + 1 + r.length by omega]
      exact this
  have := key l 0 0 (by decide) (by decide)
  rw [Nat.zero_add] at this
  exact this
/-- A text's bytes. -/
def bl (s : ByteArray) : List UInt8 := s.data.toList
theorem bl_length (s : ByteArray) : (bl s).length = s.size := by simp [bl]
theorem or_byte {a b : Int} (ha : 0 ≤ a) (ha2 : a < 16777216) (hb : 0 ≤ b) (hb2 : b < 256) : bits BinOp.or IntKind.i64 (wrap64 (a * 256)) (wrap64 b) = a * 256 + b := by
  have e1 : wrap64 (a * 256) = a * 256 := by unfold wrap64; omega
  have e2 : wrap64 b = b := by unfold wrap64; omega
  rw [e1, e2]
  exact bits_join .i64 62 (by decide) (fun n h0 h1 => by rw [IntKind.wrap_i64]; omega) 8 (a * 256) b (by omega) (by omega) (by omega) hb hb2 (by omega)
theorem bl_extract (s : ByteArray) (i j : Nat) : bl (s.extract i j) = ((bl s).drop i).take (j - i) := by simp [bl]
theorem bl_tail (s : ByteArray) (i : Nat) : bl (s.extract i s.size) = (bl s).drop i := by
  rw [bl_extract]
  exact List.take_of_length_le (by rw [List.length_drop, bl_length]; exact Nat.le_refl _)
theorem bl_get {s : ByteArray} {k : Nat} (h : k < s.size) : s[k] = (bl s)[k]! := by
  rw [getW _ _ (by rw [bl_length]; exact h)]
  simp [bl]
  rfl

set_option maxRecDepth 100000 in
set_option maxHeartbeats 400000 in
theorem fread_any (cb o z : Nat) (xs : List Int) (s : ByteArray) (w : World) (hc : Cmd w cb xs) (ho : o < xs.length) (hz : z ≤ 4) (hs : s.size ≤ 9223372036854775807) :
    Calls Tryd.prog 40 #[.agg #[.pointer (some ⟨cb, o, none⟩), .int .i64 z], .string s] w
      fun e w' => (∃ s', e = .returned (.string s') ∧ bl s' = (bl s).drop z) ∧ Cmd w' cb (xs.set o (vl ((bl s).take z))) ∧ Below cb w w' ∧ (∀ k, k < w.heap.size → k ≠ cb → w'.heap[k]? = w.heap[k]?) := by
  obtain ⟨X, hX⟩ : ∃ X, X = w.heap.size := ⟨_, rfl⟩
  obtain ⟨V, hV⟩ : ∃ V, V = w.alloc (.cells #[.pointer (some ⟨cb, o, none⟩), .int .i64 z] 59) := ⟨_, rfl⟩
  obtain ⟨m, hm⟩ : ∃ m, m = min z s.size := ⟨_, rfl⟩
  have hlt := hc.lt
  have HV : Hid (Below X w V ∧ Cmd V cb xs ∧ V.heap[X]? = some (.cells #[.pointer (some ⟨cb, o, none⟩), .int .i64 z] 59 (0, 0)) ∧ V.heap.size = X + 1 ∧ cb < X) := by
    subst hV hX
    have hb : Below w.heap.size w (w.alloc (.cells #[.pointer (some ⟨cb, o, none⟩), .int .i64 z] 59)) := (Below.refl _ _).alloc (Nat.le_refl _) _
    exact ⟨hb, hc.below hb, heap_alloc_new _ _, by simp, hlt⟩
  have r0 : V.cell? ⟨X, 0, none⟩ = some (.pointer (some ⟨cb, o, none⟩)) := by simp [World.cell?, HV.out.2.2.1]
  have r1 : V.cell? ⟨X, 1, none⟩ = some (.int .i64 z) := by simp [World.cell?, HV.out.2.2.1]
  have rc := HV.out.2.1.cell ho
  have rf := HV.out.2.1.frozen o
  have HX := hidW hX
  have HM := hidW (And.intro hm (And.intro hz hs))
  have HO := hidW ho
  go_enter Tryd.func40, Tryd.ntmps40
  go_upto_region 1 with fail
  simp only [← hX, ← hV]
  clear hX hV hc hlt
  go_upto_region 3 with fail
  have HL : Hid ((bl s).length = s.size) := bl_length s
  have HV2 : Hid (Below cb w (V.setCell ⟨cb, o, none⟩ (.int .i64 0)) ∧ Cmd (V.setCell ⟨cb, o, none⟩ (.int .i64 0)) cb (xs.set o 0) ∧ (∀ k, k < w.heap.size → k ≠ cb → (V.setCell ⟨cb, o, none⟩ (.int .i64 0)).heap[k]? = w.heap[k]?) ∧ (V.setCell ⟨cb, o, none⟩ (.int .i64 0)).heap[X]? = some (.cells #[.pointer (some ⟨cb, o, none⟩), .int .i64 z] 59 (0, 0))) := by
    obtain ⟨h1, h2, h3, h4, h5⟩ := HV.out
    refine ⟨(h1.mono (Nat.le_of_lt h5)).setCell (p := ⟨cb, o, none⟩) (Nat.le_refl _) _, h2.set o 0, fun k hk hne => ?_, ?_⟩
    · rw [heap_setCell_other _ _ _ _ (by simpa using hne)]
      exact h1.block k (by rw [HX.out]; exact hk)
    · rw [heap_setCell_other _ _ _ _ (by show X ≠ cb; omega)]
      exact h3
  have hmin : min (z : Int) (s.size : Int) = (m : Int) := by have := HM.out.1; omega
  have hmm : m ≤ z ∧ m ≤ s.size := by have := HM.out.1; omega
  have HMM := hidW hmm
  simp only [hmin]
  clear hmin hmm hm r0 r1 rc rf
  generalize V.setCell ⟨cb, o, none⟩ (.int .i64 0) = V2 at HV2 ⊢
  go_wp2_with fail
  go_loopg [6, 16] m (fun gg s6 s16 wx => ∃ k : Nat, k ≤ m ∧ m - k ≤ gg ∧ s16 = .int .i64 k ∧ Aside (Below cb w wx ∧ Cmd wx cb (xs.set o (vl ((bl s).take k))) ∧ (∀ k, k < w.heap.size → k ≠ cb → wx.heap[k]? = w.heap[k]?) ∧ wx.heap[X]? = some (.cells #[.pointer (some ⟨cb, o, none⟩), .int .i64 z] 59 (0, 0))))
  case atStart => exact ⟨0, Nat.zero_le _, by omega, rfl, HV2.out⟩
  case round =>
    obtain ⟨k, hk, hg, rfl, HA⟩ := hrel
    have HA2 := hidW HA.out
    clear HA
    by_cases hlt : k < m
    · have hltz : (k : Int) < (m : Int) := by omega
      have hlz : k < (bl s).length := by have := HL.out; have := HMM.out; omega
      have hls : k < s.size := by have := HMM.out; omega
      have hwk : wrap64 ((k : Int) + 1) = ((k + 1 : Nat) : Int) := by have := HMM.out; have := HM.out; unfold wrap64; omega
      have HK := hidW (And.intro hwk (And.intro hlt hg))
      have hvt := vl_take hlz
      have hvb := vl_bound ((bl s).take k)
      have hk4 : k < 4 := by have := HMM.out; have := HM.out; omega
      have hvb2 : vl ((bl s).take k) < 16777216 := by
        refine Int.lt_of_lt_of_le hvb.2 ?_
        have : ((bl s).take k).length ≤ 3 := by rw [List.length_take]; omega
        rcases h : ((bl s).take k).length with _ | _ | _ | _ | n
        · decide
        · decide
        · decide
        · decide
        · omega
      have rc := HA2.out.2.1.cell (k := o) (by rw [List.length_set]; exact HO.out)
      have hget : (xs.set o (vl ((bl s).take k)))[o]! = vl ((bl s).take k) := by rw [getW _ _ (by rw [List.length_set]; exact HO.out)]; simp
      rw [hget] at rc
      have rf := HA2.out.2.1.frozen o
      have r0 : wr.cell? ⟨X, 0, none⟩ = some (.pointer (some ⟨cb, o, none⟩)) := by simp [World.cell?, HA2.out.2.2.2]
      generalize vl ((bl s).take k) = a at *
      have HVT := hidW (And.intro hvt (And.intro hvb.1 hvb2))
      clear hwk hvt hvb hvb2 hk4 hget hg hk
      have HB : Hid ((s[k].toNat : Int) = (((bl s)[k]!).toNat : Int) ∧ ((s[k].toNat : Nat) : Int) < 256) := ⟨by rw [bl_get hls], by have := s[k].toNat_lt; omega⟩
      have hor := or_byte HVT.out.2.1 HVT.out.2.2 (b := (s[k].toNat : Int)) (by omega) HB.out.2
      have HOR := hidW hor
      clear hor
      have HF : Hid (Below cb w (wr.setCell ⟨cb, o, none⟩ (.int .i64 (a * 256 + (s[k].toNat : Int)))).drew ∧ Cmd (wr.setCell ⟨cb, o, none⟩ (.int .i64 (a * 256 + (s[k].toNat : Int)))).drew cb (xs.set o (vl ((bl s).take (k + 1)))) ∧ (∀ j, j < w.heap.size → j ≠ cb → (wr.setCell ⟨cb, o, none⟩ (.int .i64 (a * 256 + (s[k].toNat : Int)))).drew.heap[j]? = w.heap[j]?) ∧ (wr.setCell ⟨cb, o, none⟩ (.int .i64 (a * 256 + (s[k].toNat : Int)))).drew.heap[X]? = some (.cells #[.pointer (some ⟨cb, o, none⟩), .int .i64 z] 59 (0, 0))) := by
        obtain ⟨h1, h2, h3, h4⟩ := HA2.out
        refine ⟨(h1.setCell (p := ⟨cb, o, none⟩) (Nat.le_refl _) _).drew, ?_, fun j hj hne => ?_, ?_⟩
        · have := h2.set o (a * 256 + (s[k].toNat : Int))
          rw [List.set_set] at this
          rw [HVT.out.1, ← HB.out.1]
          exact this
        · exact (heap_setCell_other wr ⟨cb, o, none⟩ j _ (by simpa using hne)).trans (h3 j hj hne)
        · exact (heap_setCell_other wr ⟨cb, o, none⟩ X _ (by show X ≠ cb; have := HV.out.2.2.2.2; omega)).trans h4
      go_upto_region 6 with fail
      go_region
      simp only [HOR.out]
      generalize (wr.setCell ⟨cb, o, none⟩ (.int .i64 (a * 256 + (s[k].toNat : Int)))).drew = W5 at HF ⊢
      clear rc rf r0 HOR HB
      go_wp2_with fail
      go_roundg (m - (k + 1))
      case measure => have := HK.out; omega
      case rel => exact ⟨k + 1, HK.out.2.1, Nat.le_refl _, by first | exact congrArg (Value.int .i64) HK.out.1 | go_num, HF.out⟩
    · obtain rfl : k = m := by omega
      have hltz : ¬ (k : Int) < (k : Int) := by omega
      have hk0 : (0 : Int) ≤ (k : Int) := by omega
      have hks : (k : Int) ≤ (s.size : Int) := by have := HMM.out; omega
      have htz : (bl s).take k = (bl s).take z := by
        by_cases h : z ≤ s.size
        · have : k = z := by have := HM.out.1; omega
          rw [this]
        · have e : k = s.size := by have := HM.out.1; omega
          rw [List.take_of_length_le (by rw [HL.out]; omega), List.take_of_length_le (by rw [HL.out]; omega)]
      have hdz : (bl s).drop k = (bl s).drop z := by
        by_cases h : z ≤ s.size
        · have : k = z := by have := HM.out.1; omega
          rw [this]
        · have e : k = s.size := by have := HM.out.1; omega
          rw [List.drop_of_length_le (by rw [HL.out]; omega), List.drop_of_length_le (by rw [HL.out]; omega)]
      rw [htz] at HA2
      have HD := hidW hdz
      clear hk hg htz hdz
      go_wp2_with fail
      go_ret
      exact ⟨⟨_, rfl, by rw [← HD.out]; exact bl_tail s k⟩, HA2.out.2.1, HA2.out.1, HA2.out.2.2.1⟩
end Go.Proofs.YtndkabnmffgebaaDoor.wir
