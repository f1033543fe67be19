/- Contracts over this seat's translation: package wire's cut. -/
import Derived.Test.YtndkabnmffgebaaDoorWirRc
namespace Go.Proofs.YtndkabnmffgebaaDoor.wir
open Go.RowKit

set_option maxRecDepth 100000 in
set_option maxHeartbeats 400000 in
/-- cut, of bytes of which there is one at least. -/
theorem cut_good (s : ByteArray) (h : UInt8) (t : List UInt8) (hs : bl s = h :: t) (hc' : h.toNat ≤ t.length) (hn : s.size ≤ 9223372036854775807) (w : World) :
    Calls Tryd.prog 29 #[.string s] w fun e w' => ∃ a b, e = .returned (.tuple #[.string a, .string b, .bool true]) ∧ bl a = t.take h.toNat ∧ bl b = t.drop h.toNat ∧ Below w.heap.size w w' := by
  have hl : s.size = t.length + 1 := by rw [← bl_length, hs]; rfl
  have hpos : 0 < s.size := by omega
  have hz : (0 : Int) < (s.size : Int) := by omega
  have h0 : s[0] = h := by rw [bl_get hpos, hs]; rfl
  have HBL := hidW hs
  have HL := hidW hl
  obtain ⟨m, hm⟩ : ∃ m, m = h.toNat := ⟨_, rfl⟩
  have hm8 : m < 256 := by rw [hm]; exact h.toNat_lt
  have h0m : (s[0].toNat : Int) = (m : Int) := by rw [h0, hm]
  have hw0 : wrap64 (m : Int) = (m : Int) := by unfold wrap64; omega
  have hw1 : wrap64 (1 + (m : Int)) = 1 + (m : Int) := by unfold wrap64; omega
  rw [← hm]
  clear hs
  have hc : m ≤ t.length := by rw [hm]; exact hc'
  clear hc'
  have hgt : ¬ ((s.size : Int) < 1 + (m : Int)) := by omega
  have hgt2 : 1 + (m : Int) ≤ (s.size : Int) := by omega
  have h1m : (1 : Int) ≤ 1 + (m : Int) := by omega
  have h00 : (0 : Int) ≤ 1 + (m : Int) := by omega
  have HC := hidW hc
  clear hc hl hm h0
  go_enter Tryd.func29, Tryd.ntmps29
  go_upto_region 4 with fail
  try simp only [h0m, hw0, hw1]
  go_region
  go_wp2_with fail
  go_ret3
  refine ⟨_, _, rfl, ?_, ?_, (Below.refl _ _).drew⟩
  · rw [bl_extract, HBL.out, show 1 + m - 1 = m by omega]; rfl
  · rw [bl_tail, HBL.out, show 1 + m = m + 1 by omega]; rfl
set_option maxRecDepth 100000 in
set_option maxHeartbeats 400000 in
theorem cut_bad (s : ByteArray) (h : UInt8) (t : List UInt8) (hs : bl s = h :: t) (hc' : ¬ h.toNat ≤ t.length) (hn : s.size ≤ 9223372036854775807) (w : World) :
    Calls Tryd.prog 29 #[.string s] w fun e w' => e = .returned (.tuple #[.string ⟨#[]⟩, .string ⟨#[]⟩, .bool false]) ∧ Below w.heap.size w w' := by
  have hl : s.size = t.length + 1 := by rw [← bl_length, hs]; rfl
  have hpos : 0 < s.size := by omega
  have hz : (0 : Int) < (s.size : Int) := by omega
  have h0 : s[0] = h := by rw [bl_get hpos, hs]; rfl
  have HBL := hidW hs
  have HL := hidW hl
  obtain ⟨m, hm⟩ : ∃ m, m = h.toNat := ⟨_, rfl⟩
  have hm8 : m < 256 := by rw [hm]; exact h.toNat_lt
  have h0m : (s[0].toNat : Int) = (m : Int) := by rw [h0, hm]
  have hw0 : wrap64 (m : Int) = (m : Int) := by unfold wrap64; omega
  have hw1 : wrap64 (1 + (m : Int)) = 1 + (m : Int) := by unfold wrap64; omega
  clear hs
  have hc : ¬ m ≤ t.length := by rw [hm]; exact hc'
  clear hc'
  have hgt : (s.size : Int) < 1 + (m : Int) := by omega
  have HC := hidW hc
  clear hc hl hm h0
  go_enter Tryd.func29, Tryd.ntmps29
  go_upto_region 2 with fail
  try simp only [h0m, hw0, hw1]
  go_wp2_with fail
  go_ret3
  exact ⟨rfl, Below.refl _ _⟩
end Go.Proofs.YtndkabnmffgebaaDoor.wir
