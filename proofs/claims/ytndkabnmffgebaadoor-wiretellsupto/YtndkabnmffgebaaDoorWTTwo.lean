/- Contracts over this seat's translation: the document's two. -/
import Derived.Test.YtndkabnmffgebaaDoorWirByt
namespace Go.Proofs.YtndkabnmffgebaaDoor.wir
open Go.RowKit

theorem own_push {B : Nat} {w2 : World} {v' : Value} {bs : List UInt8} {u : UInt8} (h : w2.ownsRow B 5 1 v' (bs.length + 1) (bCs bs ++ [.int .u8 (u.toNat : Int)])) : OwnB B w2 v' (bs ++ [u]) := by
  show w2.ownsRow B 5 1 v' (bs ++ [u]).length (bCs (bs ++ [u]))
  rw [bCs_append, List.length_append]
  exact h
set_option maxRecDepth 100000 in
set_option maxHeartbeats 400000 in
theorem two_any (B : Nat) (x : Int) (v : Value) (bs : List UInt8) (w : World) (hB : B ≤ w.heap.size) (hx : 0 ≤ x) (hx2 : x < 4294967296) (hown : OwnB B w v bs) (hlen : bs.length ≤ 1000000) :
    Calls Tryd.prog 21 #[v, .int .i64 x] w
      fun e w' => ∃ v', e = .returned v' ∧ OwnB B w' v' (bs ++ wrt x 2) ∧ Below B w w' ∧ Lib.OthersKept 5 none w w' := by
  obtain ⟨i0, hi, hz0, hz1, hz2⟩ := infoU
  have HI := hidW (And.intro hi (And.intro hz0 (And.intro hz1 hz2)))
  obtain ⟨q, c, hv⟩ := own_form hown
  subst hv
  have HO := hidW hown
  have HB := hidW (And.intro hB hlen)
  have e1 : ((bt x 1).toNat : Int) = x / 256 % 256 := bt_nat x 1
  have e0 : ((bt x 0).toNat : Int) = x % 256 := by
    have := bt_nat x 0
    simp only [Nat.zero_mul, Int.pow_zero, Int.ediv_one] at this
    exact this
  have HE := hidW (And.intro e0 e1)
  have hq0 : 0 ≤ x / 256 := by omega
  have hq1 : x / 256 ≤ 16777215 := by omega
  have hr0 : 0 ≤ x % 256 := by omega
  have hr1 : x % 256 ≤ 255 := by omega
  clear hi hz0 hz1 hz2 hown hB hlen e0 e1
  go_enter Tryd.func21, Tryd.ntmps21
  go_upto_region 2 with (at_builtin; refine wpList_append_own _ rfl _ _ 39 rfl B 5 i0 (.int .u8 0) 1 1 (by kernel_rfl) HI.out.1 HI.out.2.1 HI.out.2.2.1 HI.out.2.2.2 rfl (by decide) _ _ _ rfl (HO.out.alloc _) ⟨w.heap.size, 0, none⟩ 1 1 [.int .u8 (x / 256 % 256)] rfl rfl cell1 (fun u hu => by simp at hu; subst hu; rfl) (by have := HB.out; unfold maxLen; omega) (by have := HB.out; omega) (by rw [World.size_alloc]; have := HB.out; omega) ?_; intro v1 w1 ho1 hg1 _)
  have HW1 : Hid (OwnB B w1 v1 (bs ++ [bt x 1]) ∧ Below B w w1 ∧ Lib.OthersKept 5 none w w1 ∧ B ≤ w1.heap.size) := by
    have hgs := hg1.size
    rw [World.size_alloc] at hgs
    refine ⟨own_push (by rw [HE.out.2]; exact ho1), ((Below.refl B w).alloc HB.out.1 _).grown hg1 (by rw [World.size_alloc]; have := HB.out.1; omega) (fun k hk => (HO.out.lt k hk).1), ((Lib.OthersKept.refl _ _ w).alloc _).grown hg1 (own_kind (HO.out.alloc _)), by have := HB.out.1; omega⟩
  obtain ⟨q1, n1, c1, hv1⟩ : ∃ q n c, v1 = .slice q n c := by
    obtain ⟨a, b, c⟩ := own_form HW1.out.1
    exact ⟨a, _, b, c⟩
  subst hv1
  clear ho1 hg1
  go_wp2_with (at_builtin; refine wpList_append_own _ rfl _ _ 39 rfl B 5 i0 (.int .u8 0) 1 1 (by kernel_rfl) HI.out.1 HI.out.2.1 HI.out.2.2.1 HI.out.2.2.2 rfl (by decide) _ _ _ rfl (HW1.out.1.alloc _) ⟨w1.heap.size, 0, none⟩ 1 1 [.int .u8 (x % 256)] rfl rfl cell1 (fun u hu => by simp at hu; subst hu; rfl) (by have := HB.out; rw [List.length_append]; simp only [List.length_cons, List.length_nil]; unfold maxLen; omega) (by have := HB.out; rw [List.length_append]; simp only [List.length_cons, List.length_nil]; omega) (by rw [World.size_alloc]; have := HW1.out.2.2.2; omega) ?_; intro v2 w2 ho2 hg2 _)
  have HW2 : Hid (OwnB B w2 v2 (bs ++ [bt x 1] ++ [bt x 0]) ∧ Below B w w2 ∧ Lib.OthersKept 5 none w w2) := by
    refine ⟨own_push (by rw [HE.out.1]; exact ho2), (HW1.out.2.1.alloc HW1.out.2.2.2 _).grown hg2 (by rw [World.size_alloc]; have := HW1.out.2.2.2; omega) (fun k hk => (HW1.out.1.lt k hk).1), (HW1.out.2.2.1.alloc _).grown hg2 (own_kind (HW1.out.1.alloc _))⟩
  clear ho2 hg2
  go_wp2_with fail
  go_ret
  refine ⟨v2, rfl, ?_, HW2.out.2.1, HW2.out.2.2⟩
  have := HW2.out.1
  rw [List.append_assoc] at this
  exact this
end Go.Proofs.YtndkabnmffgebaaDoor.wir
