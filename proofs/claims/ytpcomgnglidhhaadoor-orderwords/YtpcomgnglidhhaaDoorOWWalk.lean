/- The walk of OrderWords: at every order it answers true. -/
import Derived.Test.YtpcomgnglidhhaaDoorOrdCut
namespace Go.Proofs.YtpcomgnglidhhaaDoor.ord
open Go.RowKit

theorem limit_any (a b c d f : Int) (w : World) :
    Calls Tryd.prog 9 #[.int .i64 a, .int .i64 b, .int .i64 c, .int .i64 d, .int .i64 f] w fun e w' => e = .returned (oV ⟨a, b, c, 1, d, f, 0, 0⟩) ∧ Below w.heap.size w w' := by
  go_enter Tryd.func9, Tryd.ntmps9
  go_wp2
  exact bodyPost_ret (v := oV ⟨a, b, c, 1, d, f, 0, 0⟩) (by simp [results, Tryd.results9, go_sem, oV]) rfl ⟨rfl, (Below.refl _ _).alloc (Nat.le_refl _) _⟩

theorem dec_one {n : Int} (h0 : 0 ≤ n) (h : n < 10) : dec n = [UInt8.ofNat (48 + n.toNat)] := by
  rw [dec_pos h0]; exact Lib.decDigits_one (by omega)
theorem dec_two {n : Int} (h0 : 10 ≤ n) (h : n < 100) : dec n = [UInt8.ofNat (48 + n.toNat / 10), UInt8.ofNat (48 + n.toNat % 10)] := by
  rw [dec_pos (by omega)]; exact Lib.decDigits_two (by omega) (by omega)

theorem fact_txt : txt ⟨3, 1, 2, 1, 50, 7, 0, 0⟩ = [51, 32, 49, 32, 115, 101, 108, 108, 32, 108, 105, 109, 105, 116, 32, 55, 32, 97, 116, 32, 53, 48] := by
  unfold txt wordsOf headWs tailWs
  simp only [dec_one (n := 3) (by omega) (by omega), dec_one (n := 1) (by omega) (by omega), dec_one (n := 7) (by omega) (by omega), more, dec_two (n := 50) (by omega) (by omega)]
  rfl
theorem fact_chk : chk ⟨3, 1, 2, 1, 50, 7, 0, 0⟩ = 0 := by decide

theorem print_fact (w : World) (hL : Laid w) :
    Calls Tryd.prog 6 #[oV ⟨3, 1, 2, 1, 50, 7, 0, 0⟩] w fun e w' => e = .returned (.tuple #[.string ⟨#[51, 32, 49, 32, 115, 101, 108, 108, 32, 108, 105, 109, 105, 116, 32, 55, 32, 97, 116, 32, 53, 48]⟩, .nilIface]) ∧ Below w.heap.size w w' := by
  have := print_any ⟨3, 1, 2, 1, 50, 7, 0, 0⟩ w hL
  rw [if_pos fact_chk, fact_chk, fact_txt] at this
  exact this

theorem print_okay (o : O) (w : World) (hL : Laid w) (h : chk o = 0) :
    Calls Tryd.prog 6 #[oV o] w fun e w' => e = .returned (.tuple #[.string ⟨(txt o).toArray⟩, .nilIface]) ∧ Below w.heap.size w w' := by
  have := print_any o w hL
  rw [if_pos h, h, errV_zero] at this
  exact this

theorem txt_size {o : O} (h : chk o = 0) : (⟨(txt o).toArray⟩ : ByteArray).size ≤ 2000000 := by
  have h1 := glue_len (wordsOf o) (words_short h)
  have h2 : (wordsOf o).length ≤ 11 := by
    unfold wordsOf headWs tailWs more
    split <;> split <;> split <;> simp
  rw [size_list]
  show (glue (wordsOf o)).length ≤ _
  omega

theorem words_len (o : O) : ((wordsOf o).length : Int) = 5 + (if o.price = 0 then 0 else 2) + (if o.shw = 0 then 0 else 2) + (if o.stop = 0 then 0 else 2) := by
  unfold wordsOf headWs tailWs more
  split <;> split <;> split <;> simp

set_option maxRecDepth 100000 in
set_option maxHeartbeats 2000000 in
theorem words_no (o : O) (w : World) (hL : Laid w) (h : chk o ≠ 0) :
    Calls Tryd.prog 4 #[oV o] w fun e w' => e = .returned (.bool true) ∧ Below w.heap.size w w' := by
  have hcon := fun W => print_no o W h
  rw [errV_of h] at hcon
  generalize chk o = k at *
  obtain ⟨a, b, c, d, p, q, s, t⟩ := o
  have H0 : Hid (∀ W, Laid W → Calls Tryd.prog 6 #[oV ⟨3, 1, 2, 1, 50, 7, 0, 0⟩] W fun e w' => e = .returned (.tuple #[.string ⟨#[51, 32, 49, 32, 115, 101, 108, 108, 32, 108, 105, 109, 105, 116, 32, 55, 32, 97, 116, 32, 53, 48]⟩, .nilIface]) ∧ Below W.heap.size W w') := fun W hW => print_fact W hW
  have H1 : Hid (∀ W, Calls Tryd.prog 6 #[oV ⟨a, b, c, d, p, q, s, t⟩] W fun e w' => e = .returned (.tuple #[.string ⟨#[]⟩, .iface 40 (.int .i64 k)]) ∧ Below W.heap.size W w') := hcon
  clear hcon h
  simp only [oV] at H0 H1 ⊢
  go_enter Tryd.func4, Tryd.ntmps4
  go_wp2_with fail
  refine (limit_any _ _ _ _ _ _).mono ?_
  rintro e w1 ⟨rfl, hb1⟩
  have hb1' : Below w.heap.size w w1 := ((Below.refl _ _).alloc (Nat.le_refl _) _).trans (hb1.mono (by simp))
  simp only [oV]
  go_wp2_with fail
  refine (H0.out w1 (hL.below hb1')).mono ?_
  rintro e w2 ⟨rfl, hb2⟩
  have hb2' : Below w.heap.size w w2 := hb1'.trans (hb2.mono hb1'.size)
  have hbx := hb1.trans (hb2.mono hb1.size)
  obtain ⟨hc2, hf2⟩ := bcell hbx
  go_wp2_with fail
  refine (H1.out w2).mono ?_
  rintro e w3 ⟨rfl, hb3⟩
  go_wp2_with fail
  go_ret
  exact ⟨rfl, hb2'.trans (hb3.mono hb2'.size)⟩

set_option maxRecDepth 100000 in
set_option maxHeartbeats 2000000 in
theorem words_ok (o : O) (w : World) (hL : Laid w) (h : chk o = 0) :
    Calls Tryd.prog 4 #[oV o] w fun e w' => e = .returned (.bool true) ∧ Below w.heap.size w w' := by
  have hcon := fun W hW => print_okay o W hW h
  have hcut := fun W => cut_any ⟨(txt o).toArray⟩ W (txt_size h)
  have ec : cut (⟨(txt o).toArray⟩ : ByteArray).data.toList = wordsOf o := cut_txt h
  rw [ec] at hcut
  have HN : Hid (((vals (wordsOf o)).length : Int) = 5 + (if o.price = 0 then 0 else 2) + (if o.shw = 0 then 0 else 2) + (if o.stop = 0 then 0 else 2)) := by
    show ((vals (wordsOf o)).length : Int) = _
    unfold vals
    rw [List.length_map]; exact words_len o
  generalize vals (wordsOf o) = vs at hcut HN
  generalize (⟨(txt o).toArray⟩ : ByteArray) = tx at hcon hcut
  clear ec h
  obtain ⟨a, b, c, d, p, q, s, t⟩ := o
  have H0 : Hid (∀ W, Laid W → Calls Tryd.prog 6 #[oV ⟨3, 1, 2, 1, 50, 7, 0, 0⟩] W fun e w' => e = .returned (.tuple #[.string ⟨#[51, 32, 49, 32, 115, 101, 108, 108, 32, 108, 105, 109, 105, 116, 32, 55, 32, 97, 116, 32, 53, 48]⟩, .nilIface]) ∧ Below W.heap.size W w') := fun W hW => print_fact W hW
  have H1 : Hid (∀ W, Laid W → Calls Tryd.prog 6 #[oV ⟨a, b, c, d, p, q, s, t⟩] W fun e w' => e = .returned (.tuple #[.string tx, .nilIface]) ∧ Below W.heap.size W w') := hcon
  have H2 : Hid (∀ W : World, Calls Tryd.prog 10 #[.string tx, .int .u8 32] W fun e w' => ∃ g cap k, e = .returned (.slice (some ⟨g, 0, none⟩) k cap) ∧
      w'.ownsRow W.heap.size 9 1 (.slice (some ⟨g, 0, none⟩) k cap) k vs ∧ Below W.heap.size W w') := hcut
  clear hcon hcut
  simp only [oV] at H0 H1 HN ⊢
  go_enter Tryd.func4, Tryd.ntmps4
  go_wp2_with fail
  refine (limit_any _ _ _ _ _ _).mono ?_
  rintro e w1 ⟨rfl, hb1⟩
  have hb1' : Below w.heap.size w w1 := ((Below.refl _ _).alloc (Nat.le_refl _) _).trans (hb1.mono (by simp))
  simp only [oV]
  go_wp2_with fail
  refine (H0.out w1 (hL.below hb1')).mono ?_
  rintro e w2 ⟨rfl, hb2⟩
  have hb2' : Below w.heap.size w w2 := hb1'.trans (hb2.mono hb1'.size)
  have hbx := hb1.trans (hb2.mono hb1.size)
  obtain ⟨hc2, hf2⟩ := bcell hbx
  go_wp2_with fail
  refine (H1.out w2 (hL.below hb2')).mono ?_
  rintro e w3 ⟨rfl, hb3⟩
  have hb3' : Below w.heap.size w w3 := hb2'.trans (hb3.mono hb2'.size)
  have hby := hbx.trans (hb3.mono hbx.size)
  obtain ⟨hc3, hf3⟩ := bcell hby
  clear hc2 hf2 H0 H1
  have hH2 := H2.out w3
  have HH : Hid (Calls Tryd.prog 10 #[.string tx, .int .u8 32] w3 fun e w' => ∃ g cap k, e = .returned (.slice (some ⟨g, 0, none⟩) k cap) ∧ (vs.length : Int) = (k : Int) ∧ k ≤ 9223372036854775807 ∧ Below w.heap.size w w') := by
    refine hH2.mono ?_
    rintro e w' ⟨g, cap, k, rfl, ho, hb⟩
    obtain ⟨_, _, hkc, hl⟩ := own_lt ho
    have hm : k ≤ 9223372036854775807 := by
      obtain ⟨g', cap', cur, e, _, _, _, hcm, _⟩ := ho.2.resolve_left (fun h => by cases h.1)
      cases e
      unfold maxLen at hcm
      omega
    exact ⟨g, cap, k, rfl, by omega, hm, hb3'.trans (hb.mono hb3'.size)⟩
  clear H2 hH2
  cases hp : (p != 0) <;> cases hs : (s != 0) <;> cases ht : (t != 0) <;>
  · have hp' : p = 0 ∨ p ≠ 0 := by omega
    have HP : Hid ((p != 0) = _) := hp
    have HS : Hid ((s != 0) = _) := hs
    have HT : Hid ((t != 0) = _) := ht
    clear hp'
    go_wp2_with fail
    refine HH.out.mono ?_
    rintro e w4 ⟨g, cap, k, rfl, hk, hkm, hb4⟩
    have hN := HN.out
    rw [hk] at hN
    simp only [bne_iff_ne, ne_eq, bne_eq_false_iff_eq] at hp hs ht
    simp only [hp, hs, ht, if_true, if_false] at hN
    have HK : Hid ((k : Int) = _) := hN
    clear hN hk hp hs ht
    have hp := HP.out
    have hs := HS.out
    have ht := HT.out
    go_wp2_with fail
    go_ret
    refine ⟨?_, hb4⟩
    rw [HK.out]
    rfl

/-- At every order it answers true. -/
theorem words_walk (o : O) (w : World) (hL : Laid w) :
    Calls Tryd.prog 4 #[oV o] w fun e w' => e = .returned (.bool true) ∧ Below w.heap.size w w' := by
  by_cases h : chk o = 0
  · exact words_ok o w hL h
  · exact words_no o w hL h

end Go.Proofs.YtpcomgnglidhhaaDoor.ord
