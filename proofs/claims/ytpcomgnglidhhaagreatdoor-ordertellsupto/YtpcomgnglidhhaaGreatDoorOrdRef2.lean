/- Contracts over this seat's translation: the document's Digits and Number, each at every input that it is asked for. -/
import Derived.Test.YtpcomgnglidhhaaGreatDoorOrdCut
import Derived.Test.YtpcomgnglidhhaaGreatDoorOrdParse
namespace Go.Proofs.YtpcomgnglidhhaaGreatDoor.ord
open Go.RowKit

def digS : ByteArray := ⟨#[48, 49, 50, 51, 52, 53, 54, 55, 56, 57]⟩
theorem dig_one (n : Int) (h0 : 0 ≤ n) (h1 : n < 10) : digS.extract n.toNat (n + 1).toNat = ⟨(dec n).toArray⟩ := by
  have : n = 0 ∨ n = 1 ∨ n = 2 ∨ n = 3 ∨ n = 4 ∨ n = 5 ∨ n = 6 ∨ n = 7 ∨ n = 8 ∨ n = 9 := by omega
  rcases this with rfl | rfl | rfl | rfl | rfl | rfl | rfl | rfl | rfl | rfl <;> (apply str_ext; rw [dec_pos (by decide), Lib.decDigits_one (by decide)]; decide)

theorem digits_one (n : Int) (w : World) (h0 : 0 ≤ n) (h1 : n < 10) :
    Calls Tryz.prog 25 #[.int .i64 n] w fun e w' => e = .returned (.string ⟨(dec n).toArray⟩) ∧ w' = w := by
  have hd := dig_one n h0 h1
  go_enter Tryz.func25, Tryz.ntmps25
  go_wp2
  go_ret
  exact ⟨by rw [← hd]; rfl, rfl⟩

theorem dec_step (n : Int) (h : 10 ≤ n) : dec n = dec (n / 10) ++ dec (n % 10) := by
  rw [dec_pos (by omega), dec_pos (by omega), dec_pos (by omega), Lib.decDigits, dif_neg (by omega), Lib.decDigits_one (i := (n % 10).toNat) (by omega)]
  have e1 : n.toNat / 10 = (n / 10).toNat := by omega
  have e2 : n.toNat % 10 = (n % 10).toNat := by omega
  rw [e1, e2]

theorem app_str (a b : List UInt8) : (⟨a.toArray⟩ : ByteArray) ++ ⟨b.toArray⟩ = ⟨(a ++ b).toArray⟩ := by
  apply str_ext
  simp

/-- Digits of a number from 0 on, of at most five digits. -/
theorem digits_any (k : Nat) : ∀ (n : Int) (w : World), 0 ≤ n → n < 10 ^ (k + 1) → k ≤ 5 →
    Calls Tryz.prog 25 #[.int .i64 n] w fun e w' => e = .returned (.string ⟨(dec n).toArray⟩) ∧ w' = w := by
  induction k with
  | zero => intro n w h0 h1 _; exact digits_one n w h0 (by omega)
  | succ k ih =>
    intro n w h0 h1 hk
    by_cases h : n < 10
    · exact digits_one n w h0 h
    have hn : 10 ≤ n := by omega
    have hb : n < 1000000 := by
      have : (10 : Int) ^ (k + 1 + 1) ≤ 10 ^ 6 := by
        have := Nat.pow_le_pow_right (n := 10) (by omega) (show k + 1 + 1 ≤ 6 by omega)
        exact_mod_cast this
      omega
    have e1 := dig_one (n % 10) (by omega) (by omega)
    have e2 := dec_step n hn
    have hr := ih (n / 10) w (by omega) (by rw [Int.pow_succ] at h1; omega) (by omega)
    have hl : (dec (n / 10)).length ≤ 10 := dec_short (by omega) (by omega)
    have m1 : 0 ≤ n % 10 := by omega
    have m2 : n % 10 < 10 := by omega
    clear h h1 ih
    go_enter Tryz.func25, Tryz.ntmps25
    go_wp2_with fail
    refine hr.mono ?_
    rintro e w' ⟨rfl, rfl⟩
    go_wp2_with fail
    go_ret
    exact ⟨by rw [e2, ← app_str, ← e1]; rfl, rfl⟩

/-- Number at a word that is too long, empty, or opens with 0. -/
theorem rnum_long (s : ByteArray) (w : World) (hs : s.size ≤ maxLen) (h : 5 < s.size) (hne : s.toList.isEmpty = false) :
    Calls Tryz.prog 30 #[.string s] w fun e w' => e = .returned (.tuple #[.int .i64 0, .bool false]) ∧ w' = w := by
  have hm : (s.size : Int) ≤ 9223372036854775807 := by unfold maxLen at hs; omega
  have h5 : (5 : Int) < (s.size : Int) := by omega
  go_enter Tryz.func30, Tryz.ntmps30
  go_wp2
  go_ret2
  exact ⟨rfl, rfl⟩
theorem rnum_nil (w : World) :
    Calls Tryz.prog 30 #[.string ⟨#[]⟩] w fun e w' => e = .returned (.tuple #[.int .i64 0, .bool false]) ∧ w' = w := by
  go_enter Tryz.func30, Tryz.ntmps30
  go_wp2
  go_ret2
  exact ⟨rfl, rfl⟩
theorem rnum_nought (s : ByteArray) (w : World) (h : s.size ≤ 5) (h0 : 0 < s.size) (hne : s.toList.isEmpty = false) (hz : s[0] = 48) :
    Calls Tryz.prog 30 #[.string s] w fun e w' => e = .returned (.tuple #[.int .i64 0, .bool false]) ∧ w' = w := by
  have h5 : (s.size : Int) ≤ 5 := by omega
  have hq : ((s[0].toNat : Int) == 48) = true := by rw [hz]; rfl
  go_enter Tryz.func30, Tryz.ntmps30
  go_wp2
  go_ret2
  exact ⟨rfl, rfl⟩

theorem pow_le4 {k : Nat} (h : k ≤ 4) : 10 ^ k ≤ 10000 := Nat.pow_le_pow_right (n := 10) (by omega) h

theorem num_all {l : List UInt8} (h1 : l ≠ []) (h2 : l.length ≤ 5) (h3 : l.head? ≠ some 48) (h4 : ∀ c ∈ l, digB c = true) : numOk l = true ∧ num l = val l := by
  have : numOk l = true := (numOk_iff l).2 ⟨h1, h2, h3, h4⟩
  exact ⟨this, by unfold num; rw [if_pos this]⟩
theorem num_not {l : List UInt8} {c : UInt8} (h : c ∈ l) (hc : digB c = false) : numOk l = false ∧ num l = 0 := by
  have : numOk l = false := by
    cases e : numOk l
    · rfl
    · have := ((numOk_iff l).1 e).2.2.2 c h
      rw [hc] at this; cases this
  exact ⟨this, by unfold num; rw [this]; rfl⟩

set_option maxRecDepth 100000 in
set_option maxHeartbeats 1000000 in
theorem rnum_some (s : ByteArray) (w : World) (h : s.size ≤ 5) (h0 : 0 < s.size) (hne : s.toList.isEmpty = false) (hz : s[0] ≠ 48) :
    Calls Tryz.prog 30 #[.string s] w fun e w' => e = .returned (.tuple #[.int .i64 (num s.data.toList : Nat), .bool (numOk s.data.toList)]) ∧ w' = w := by
  have h5 : (s.size : Int) ≤ 5 := by omega
  have hq : ((s[0].toNat : Int) == 48) = false := by
    rw [beq_eq_false_iff_ne]
    intro e
    exact hz (UInt8.toNat_inj.1 (by show s[0].toNat = 48; omega))
  have HH : Hid (s.data.toList.head? ≠ some 48) := by
    intro e
    apply hz
    have : s.data.toList.head? = some s[0] := by
      rw [List.head?_eq_getElem?]
      exact List.getElem?_eq_getElem (by rw [← size_list]; exact h0)
    rw [this] at e
    exact Option.some.inj e
  clear hz
  go_enter Tryz.func30, Tryz.ntmps30
  go_wp2
  go_loopw [4, 5] (fun n i wr => ∃ (k v : Nat), k ≤ s.size ∧ n = .int .i64 v ∧ i = .int .i64 k ∧ Hid (v = val (s.data.toList.take k)) ∧ Hid (v < 10 ^ k) ∧ Hid (∀ c ∈ s.data.toList.take k, digB c = true) ∧ wr = w) (fun _ i _ => s.size - (intOf i).toNat)
  case atStart => exact ⟨0, 0, Nat.zero_le _, rfl, rfl, rfl, (by show 0 < 1; omega), (by intro c hc; simp at hc), rfl⟩
  case round =>
    obtain ⟨k, v, hk, rfl, rfl, HV, HP, HD, rfl⟩ := hrel
    have gk : (0 : Int) ≤ (k : Int) := by omega
    have gv : (0 : Int) ≤ (v : Int) := by omega
    by_cases hlt : k < s.size
    · have gl : (k : Int) < (s.size : Int) := by omega
      have gw : (v : Int) ≤ 10000 := by
        have := pow_le4 (k := k) (by omega)
        have := HP.out
        omega
      have hmem : s[k] ∈ s.data.toList := by
        have : s.data.toList[k]? = some s[k] := List.getElem?_eq_getElem (by rw [← size_list]; exact hlt)
        exact List.mem_of_getElem? this
      by_cases c1 : (s[k].toNat : Int) < 48
      · have hn : digB s[k] = false := by unfold digB; simp; omega
        obtain ⟨e1, e2⟩ := num_not hmem hn
        have E : Hid (numOk s.data.toList = false ∧ num s.data.toList = 0) := ⟨e1, e2⟩
        clear e1 e2
        go_wp2
        go_ret2
        exact ⟨by rw [E.out.1, E.out.2]; rfl, rfl⟩
      · by_cases c2 : (57 : Int) < (s[k].toNat : Int)
        · have hn : digB s[k] = false := by unfold digB; simp; omega
          obtain ⟨e1, e2⟩ := num_not hmem hn
          have E : Hid (numOk s.data.toList = false ∧ num s.data.toList = 0) := ⟨e1, e2⟩
          clear e1 e2
          go_wp2
          go_ret2
          exact ⟨by rw [E.out.1, E.out.2]; rfl, rfl⟩
        · have hy : digB s[k] = true := by unfold digB; simp; omega
          have et := take_snoc s k hlt
          have HV2 : Hid (v * 10 + (s[k].toNat - 48) = val (s.data.toList.take (k + 1))) := by
            show v * 10 + (s[k].toNat - 48) = _
            rw [et, val_snoc, ← HV.out]; rfl
          have HP2 : Hid (v * 10 + (s[k].toNat - 48) < 10 ^ (k + 1)) := by
            have := HP.out
            show v * 10 + (s[k].toNat - 48) < _
            rw [Nat.pow_succ]; omega
          have HD2 : Hid (∀ c ∈ s.data.toList.take (k + 1), digB c = true) := by
            intro c hc
            rw [et] at hc
            rcases List.mem_append.1 hc with hc | hc
            · exact HD.out c hc
            · simp only [List.mem_singleton] at hc
              rw [hc]; exact hy
          clear et
          go_wp2
          go_roundw
          case rel => exact ⟨k + 1, v * 10 + (s[k].toNat - 48), by omega, by go_num, by go_num, HV2, HP2, HD2, trivial⟩
          case measure => simp [intOf]; omega
    · have hke : k = s.size := by omega
      have ht : s.data.toList.take k = s.data.toList := List.take_of_length_le (by rw [← size_list]; omega)
      have hx := num_all (l := s.data.toList) (by intro e; rw [size_list, e] at h0; simp at h0) (by rw [← size_list]; exact h) HH.out (by have := HD.out; rw [ht] at this; exact this)
      have hv : num s.data.toList = v := by rw [hx.2, HV.out, ht]
      have E : Hid (numOk s.data.toList = true ∧ num s.data.toList = v) := ⟨hx.1, hv⟩
      clear hx hv ht
      go_wp2
      go_ret2
      exact ⟨by rw [E.out.1, E.out.2]; rfl, rfl⟩

/-- Number, at every word. -/
theorem rnum_any (s : ByteArray) (w : World) (hs : s.size ≤ maxLen) :
    Calls Tryz.prog 30 #[.string s] w fun e w' => e = .returned (.tuple #[.int .i64 (num s.data.toList : Nat), .bool (numOk s.data.toList)]) ∧ w' = w := by
  by_cases h0 : s.size = 0
  · have e : s = ⟨#[]⟩ := str_ext (List.eq_nil_of_length_eq_zero (by rw [← size_list]; exact h0))
    subst e
    exact rnum_nil w
  have hp : 0 < s.size := by omega
  have hne : s.toList.isEmpty = false := by
    rw [Lib.toList_data]
    cases hl : s.data.toList with
    | nil => exact absurd (by rw [size_list, hl]; rfl) h0
    | cons _ _ => rfl
  by_cases h5 : 5 < s.size
  · have e1 : numOk s.data.toList = false := by
      cases e : numOk s.data.toList
      · rfl
      · have := ((numOk_iff _).1 e).2.1
        rw [← size_list] at this; omega
    have e2 : num s.data.toList = 0 := by unfold num; rw [e1]; rfl
    rw [e1, e2]
    exact rnum_long s w hs h5 hne
  · by_cases hz : s[0] = 48
    · have hh : s.data.toList.head? = some 48 := by
        rw [List.head?_eq_getElem?, ← hz]
        exact List.getElem?_eq_getElem (by rw [← size_list]; exact hp)
      have e1 : numOk s.data.toList = false := by
        cases e : numOk s.data.toList
        · rfl
        · exact absurd hh ((numOk_iff _).1 e).2.2.1
      have e2 : num s.data.toList = 0 := by unfold num; rw [e1]; rfl
      rw [e1, e2]
      exact rnum_nought s w (by omega) hp hne hz
    · exact rnum_some s w (by omega) hp hne hz

end Go.Proofs.YtpcomgnglidhhaaGreatDoor.ord
