/- A contract over this seat's translation: the document's own Cut, at a blank, of any text of at most two million bytes. -/
import Derived.Test.YtpcomgnglidhhaaGreatDoorOrdPrint
namespace Go.Proofs.YtpcomgnglidhhaaGreatDoor.ord
open Go.RowKit

theorem cut_snoc_blank {p : List UInt8} {dn : List (List UInt8)} {last : List UInt8} (h : cut p = dn ++ [last]) : cut (p ++ [32]) = (dn ++ [last]) ++ [[]] := by
  induction p generalizing dn last with
  | nil =>
    have : dn = [] ∧ last = [] := by
      cases dn with
      | nil => simp [cut] at h; exact ⟨rfl, h⟩
      | cons a r => simp [cut] at h
    obtain ⟨rfl, rfl⟩ := this
    rfl
  | cons c r ih =>
    by_cases hc : c = 32
    · subst hc
      rw [cut_blank] at h
      rw [List.cons_append, cut_blank]
      cases dn with
      | nil => simp at h; exact absurd h.2 (cut_ne r)
      | cons a dn =>
        simp at h
        obtain ⟨rfl, h⟩ := h
        rw [ih h]; rfl
    · obtain ⟨a, t, h1, h2⟩ := cut_other hc r
      obtain ⟨a', t', h1', h2'⟩ := cut_other hc (r ++ [32])
      rw [List.cons_append, h2']
      rw [h2] at h
      cases dn with
      | nil =>
        simp at h
        obtain ⟨rfl, rfl⟩ := h
        have := ih (dn := []) (last := a) (by rw [h1]; rfl)
        rw [h1'] at this
        simp at this
        obtain ⟨rfl, rfl⟩ := this
        rfl
      | cons b dn =>
        simp at h
        obtain ⟨rfl, rfl⟩ := h
        have := ih (dn := a :: dn) (last := last) (by rw [h1]; rfl)
        rw [h1'] at this
        simp at this
        obtain ⟨rfl, rfl⟩ := this
        simp

theorem cut_snoc_other {p : List UInt8} {dn : List (List UInt8)} {last : List UInt8} {c : UInt8} (hc32 : c ≠ 32) (h : cut p = dn ++ [last]) : cut (p ++ [c]) = dn ++ [last ++ [c]] := by
  induction p generalizing dn last with
  | nil =>
    have : dn = [] ∧ last = [] := by
      cases dn with
      | nil => simp [cut] at h; exact ⟨rfl, h⟩
      | cons a r => simp [cut] at h
    obtain ⟨rfl, rfl⟩ := this
    simp [cut, hc32]
  | cons b r ih =>
    by_cases hb : b = 32
    · subst hb
      rw [cut_blank] at h
      rw [List.cons_append, cut_blank]
      cases dn with
      | nil => simp at h; exact absurd h.2 (cut_ne r)
      | cons a dn =>
        simp at h
        obtain ⟨rfl, h⟩ := h
        rw [ih h]; rfl
    · obtain ⟨a, t, h1, h2⟩ := cut_other hb r
      obtain ⟨a', t', h1', h2'⟩ := cut_other hb (r ++ [c])
      rw [List.cons_append, h2']
      rw [h2] at h
      cases dn with
      | nil =>
        simp at h
        obtain ⟨rfl, rfl⟩ := h
        have := ih (dn := []) (last := a) (by rw [h1]; rfl)
        rw [h1'] at this
        simp at this
        obtain ⟨rfl, rfl⟩ := this
        rfl
      | cons x dn =>
        simp at h
        obtain ⟨rfl, rfl⟩ := h
        have := ih (dn := a :: dn) (last := last) (by rw [h1]; rfl)
        rw [h1'] at this
        simp at this
        obtain ⟨rfl, rfl⟩ := this
        simp

theorem take_snoc (s : ByteArray) (k : Nat) (h : k < s.size) : s.data.toList.take (k + 1) = s.data.toList.take k ++ [s[k]] := by
  rw [List.take_succ_eq_append_getElem (by simpa using h)]; rfl

theorem str_ext {a b : ByteArray} (h : a.data.toList = b.data.toList) : a = b := by
  cases a; cases b
  congr 1
  exact Array.toList_inj.1 h
theorem extract_list (s : ByteArray) (f k : Nat) : (s.extract f k).data.toList = (s.data.toList.take k).drop f := by
  rw [ByteArray.data_extract, Array.toList_extract, List.extract_eq_take_drop, List.drop_take]
theorem extract_is (s : ByteArray) (f k : Nat) : s.extract f k = ⟨((s.data.toList.take k).drop f).toArray⟩ := str_ext (extract_list s f k)

set_option maxRecDepth 100000 in
set_option maxHeartbeats 2000000 in
theorem cut_any (s : ByteArray) (w : World) (hs : s.size ≤ 2000000) :
    Calls Tryz.prog 29 #[.string s, .int .u8 32] w fun e w' => ∃ g cap k, e = .returned (.slice (some ⟨g, 0, none⟩) k cap) ∧
      w'.ownsRow w.heap.size 9 1 (.slice (some ⟨g, 0, none⟩) k cap) k (vals (cut s.data.toList)) ∧ Below w.heap.size w w' := by
  obtain ⟨i0, hi, hz0, hz1, hz2⟩ := info_parts infoS
  have HI : Hid (Tryz.prog.info? 9 = some i0) := hi
  clear hi
  have hsI : (s.size : Int) ≤ 2000000 := by omega
  go_enter Tryz.func29, Tryz.ntmps29
  go_wp2
  go_loopw [5, 6, 7] (fun v f i wr => ∃ (k fr : Nat) (dn : List (List UInt8)) (last : List UInt8), k ≤ s.size ∧ i = .int .i64 k ∧ f = .int .i64 fr ∧ fr ≤ k ∧ Hid (cut (s.data.toList.take k) = dn ++ [last]) ∧ Hid (last = (s.data.toList.take k).drop fr) ∧
      Hid (wr.ownsRow w.heap.size 9 1 v dn.length (vals dn)) ∧ dn.length ≤ k ∧ Hid (Below w.heap.size w wr)) (fun _ _ i _ => s.size - (intOf i).toNat)
  case atStart => exact ⟨0, 0, [], [], Nat.zero_le _, rfl, rfl, Nat.le_refl _, rfl, rfl, World.ownsRow_nil _ _ _ _, Nat.zero_le _, Below.refl _ _⟩
  case round =>
    obtain ⟨k, fr, dn, last, hk, rfl, rfl, hfk, HC, HL, HO, hdk, HB⟩ := hrel
    have gk : (0 : Int) ≤ (k : Int) := by omega
    have gf : (fr : Int) ≤ (k : Int) := by omega
    by_cases hlt : k < s.size
    · have gl : (k : Int) < (s.size : Int) := by omega
      by_cases hc : s[k] = 32
      · have hq : ((s[k].toNat : Int) == 32) = true := by rw [hc]; rfl
        go_wp2_with (at_builtin; refine wpList_append_lies _ rfl _ _ 49 rfl w.heap.size 9 i0 (.string ByteArray.empty) 1 16 Tryz.underlying49 HI.out hz0 hz1 hz2 rfl (by decide) _ dn.length (vals dn) rfl (HO.out.alloc _) ⟨wr.heap.size, 0, none⟩ 1 1 [.string (s.extract fr k)] rfl rfl ?c1 ?c2 (by decide) ?c3 ?c4 ?c5 (wr.heap.size + 1) ?c6 ?_)
        case c1 => exact World.news_of_block (cs := #[.string (s.extract fr k)]) (heap_alloc_new _ _)
        case c2 => intro u hu; simp at hu; subst hu; rfl
        case c3 => unfold maxLen; omega
        case c4 => omega
        case c5 => have := HB.out.size; simp; omega
        case c6 => simp
        intro g' cap' w2 hown2 hgrow hat hlt2
        have HO2 : Hid (w2.ownsRow w.heap.size 9 1 (.slice (some ⟨g', 0, none⟩) (dn.length + 1) cap') (dn ++ [last]).length (vals (dn ++ [last]))) := by
          have e1 : (dn ++ [last]).length = dn.length + 1 := by simp
          have e2 : vals (dn ++ [last]) = vals dn ++ [.string (s.extract fr k)] := by rw [vals_app, extract_is, HL.out]; rfl
          rw [e1, e2]; exact hown2
        have HB2 : Hid (Below w.heap.size w w2) := (HB.out.alloc HB.out.size _).grown hgrow (by have := HB.out.size; simp; omega) (by
          intro j hj
          have := HO.out
          rcases this.2 with ⟨rfl, _⟩ | ⟨g0, c0, cur, rfl, hb, _⟩
          · cases hj
          · cases hj; exact hb)
        have HC2 : Hid (cut (s.data.toList.take (k + 1)) = (dn ++ [last]) ++ [[]]) := by
          have := cut_snoc_blank HC.out
          show cut (s.data.toList.take (k + 1)) = _
          rw [take_snoc s k hlt, hc]; exact this
        have HL2 : Hid (([] : List UInt8) = (s.data.toList.take (k + 1)).drop (k + 1)) := by
          show ([] : List UInt8) = _
          rw [List.drop_eq_nil_of_le (by simp; omega)]
        clear hown2 hgrow hat hlt2
        go_wp2
        go_roundw
        case rel => exact ⟨k + 1, k + 1, dn ++ [last], [], by omega, by go_num, by go_num, Nat.le_refl _, HC2, HL2, HO2, by simp; omega, HB2⟩
        case measure => simp [intOf]; omega
      · have hq : ((s[k].toNat : Int) == 32) = false := by
          rw [beq_eq_false_iff_ne]
          intro e
          exact hc (UInt8.toNat_inj.1 (by show s[k].toNat = 32; omega))
        go_wp2
        go_roundw
        case rel => exact ⟨k + 1, fr, dn, last ++ [s[k]], by omega, by go_num, rfl, by omega, by
            have := cut_snoc_other hc HC.out
            show cut (s.data.toList.take (k + 1)) = _
            rw [take_snoc s k hlt]; exact this, by
            show last ++ [s[k]] = _
            rw [take_snoc s k hlt, List.drop_append_of_le_length (by rw [List.length_take, ← size_list]; omega), ← HL.out], HO, by omega, HB⟩
        case measure => simp [intOf]; omega
    · have hke : k = s.size := by omega
      have gfs : (fr : Int) ≤ (s.size : Int) := by omega
      go_wp2_with (at_builtin; refine wpList_append_lies _ rfl _ _ 49 rfl w.heap.size 9 i0 (.string ByteArray.empty) 1 16 Tryz.underlying49 HI.out hz0 hz1 hz2 rfl (by decide) _ dn.length (vals dn) rfl (HO.out.alloc _) ⟨wr.heap.size, 0, none⟩ 1 1 [.string (s.extract fr s.size)] rfl rfl ?c1 ?c2 (by decide) ?c3 ?c4 ?c5 (wr.heap.size + 1) ?c6 ?_)
      case c1 => exact World.news_of_block (cs := #[.string (s.extract fr s.size)]) (heap_alloc_new _ _)
      case c2 => intro u hu; simp at hu; subst hu; rfl
      case c3 => unfold maxLen; omega
      case c4 => omega
      case c5 => have := HB.out.size; simp; omega
      case c6 => simp
      intro g' cap' w2 hown2 hgrow hat hlt2
      have HO2 : Hid (w2.ownsRow w.heap.size 9 1 (.slice (some ⟨g', 0, none⟩) (dn.length + 1) cap') (dn.length + 1) (vals (cut s.data.toList))) := by
        have e2 : vals (cut s.data.toList) = vals dn ++ [.string (s.extract fr s.size)] := by
          have e3 : s.data.toList.take k = s.data.toList := List.take_of_length_le (by rw [← size_list]; omega)
          have e4 := HC.out
          rw [e3] at e4
          rw [e4, vals_app, extract_is, ← hke, HL.out]; rfl
        show w2.ownsRow _ _ _ _ _ _
        rw [e2]; exact hown2
      have HB2 : Hid (Below w.heap.size w w2) := (HB.out.alloc HB.out.size _).grown hgrow (by have := HB.out.size; simp; omega) (by
        intro j hj
        have := HO.out
        rcases this.2 with ⟨rfl, _⟩ | ⟨g0, c0, cur, rfl, hb, _⟩
        · cases hj
        · cases hj; exact hb)
      clear hown2 hgrow hat hlt2 HC HL HO HB
      go_wp2
      go_ret
      exact ⟨g', cap', dn.length + 1, rfl, HO2, HB2⟩

end Go.Proofs.YtpcomgnglidhhaaGreatDoor.ord
