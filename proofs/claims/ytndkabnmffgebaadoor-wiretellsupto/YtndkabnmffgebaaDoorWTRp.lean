/- Which bytes are none of a command. -/
import Derived.Test.YtndkabnmffgebaaDoorWTByt
import Derived.Test.YtndkabnmffgebaaDoorWirPk
namespace Go.Proofs.YtndkabnmffgebaaDoor.wir
open Go.RowKit

/-- Bytes that are just those of a command have that command's length, and its What ahead. -/
theorem rdC_shape {b : List UInt8} {x : List Int} (h : rdC b = some x) : b.length = lenE (x[0]!) ∧ ((b[0]!).toNat : Int) = x[0]! ∧ (x[0]! = 1 ∨ x[0]! = 2 ∨ x[0]! = 3 ∨ x[0]! = 4 ∨ x[0]! = 5) := by
  obtain ⟨h1, h2, h3⟩ := rdC_some h
  have hk := good_kind h1 h2
  refine ⟨by rw [← h3]; exact enc_length h1 h2, ?_, hk⟩
  obtain ⟨r, hr⟩ : ∃ r, enc x = bt (x[0]!) 0 :: r := ⟨_, rfl⟩
  rw [← h3, hr]
  show ((bt (x[0]!) 0).toNat : Int) = x[0]!
  exact bt_head _ (by omega) (by omega)
theorem rdC_no {b : List UInt8} (h : ¬ (b.length = lenE ((b[0]!).toNat : Int) ∧ (((b[0]!).toNat : Int) = 1 ∨ ((b[0]!).toNat : Int) = 2 ∨ ((b[0]!).toNat : Int) = 3 ∨ ((b[0]!).toNat : Int) = 4 ∨ ((b[0]!).toNat : Int) = 5))) : rdC b = none := by
  cases hr : rdC b with
  | none => rfl
  | some x =>
    obtain ⟨h1, h2, h3⟩ := rdC_shape hr
    exact absurd ⟨by rw [h2]; exact h1, by rw [h2]; exact h3⟩ h
/-- A number of two bytes. -/
def nb2 (b : List UInt8) (i : Nat) : Int := ((b[i]!).toNat : Int) * 256 + ((b[i + 1]!).toNat : Int)
theorem vl_two (a b : UInt8) (r : List UInt8) : vl ((a :: b :: r).take 2) = (a.toNat : Int) * 256 + (b.toNat : Int) := by
  show ((0 : Int) * 256 + (a.toNat : Int)) * 256 + (b.toNat : Int) = _
  omega
theorem vl_one (a : UInt8) (r : List UInt8) : vl ((a :: r).take 1) = (a.toNat : Int) := by
  show (0 : Int) * 256 + (a.toNat : Int) = _
  omega
theorem vl_four (a b c d : UInt8) (r : List UInt8) : vl ((a :: b :: c :: d :: r).take 4) = (((a.toNat : Int) * 256 + (b.toNat : Int)) * 256 + (c.toNat : Int)) * 256 + (d.toNat : Int) := by
  show ((((0 : Int) * 256 + (a.toNat : Int)) * 256 + (b.toNat : Int)) * 256 + (c.toNat : Int)) * 256 + (d.toNat : Int) = _
  omega
theorem rd_one {l : List UInt8} (h : l.length = 18) (h0 : ((l[0]!).toNat : Int) = 1) : rd l = [1, nb2 l 1, nb2 l 3, nb2 l 5, nb2 l 7, nb2 l 9, nb2 l 11, nb2 l 13, nb2 l 15, 0, 0] := by
  match l, h with
  | [x0, x1, x2, x3, x4, x5, x6, x7, x8, x9, x10, x11, x12, x13, x14, x15, x16, x17], _ =>
    have h0' : (x0.toNat : Int) = 1 := h0
    show rdl (zero11.set 0 (x0.toNat : Int)) _ (offs (x0.toNat : Int)) = _
    rw [h0']
    show rdl _ _ [(0, 1), (1, 2), (2, 2), (3, 2), (4, 2), (5, 2), (6, 2), (7, 2), (8, 2)] = _
    simp only [rdl, List.drop_succ_cons, List.drop_zero, vl_one, vl_two, h0']
    rfl
theorem rd_two {l : List UInt8} (h : l.length = 4) (h0 : ((l[0]!).toNat : Int) = 2) : rd l = [2, nb2 l 1, 0, 0, 0, 0, 0, 0, 0, 0, 0] := by
  match l, h with
  | [x0, x1, x2, x3], _ =>
    have h0' : (x0.toNat : Int) = 2 := h0
    show rdl (zero11.set 0 (x0.toNat : Int)) _ (offs (x0.toNat : Int)) = _
    rw [h0']
    show rdl _ _ [(0, 1), (1, 2)] = _
    simp only [rdl, List.drop_succ_cons, List.drop_zero, vl_one, vl_two, h0']
    rfl
theorem rd_three {l : List UInt8} (h : l.length = 8) (h0 : ((l[0]!).toNat : Int) = 3) : rd l = [3, nb2 l 1, 0, 0, 0, nb2 l 3, nb2 l 5, 0, 0, 0, 0] := by
  match l, h with
  | [x0, x1, x2, x3, x4, x5, x6, x7], _ =>
    have h0' : (x0.toNat : Int) = 3 := h0
    show rdl (zero11.set 0 (x0.toNat : Int)) _ (offs (x0.toNat : Int)) = _
    rw [h0']
    show rdl _ _ [(0, 1), (1, 2), (5, 2), (6, 2)] = _
    simp only [rdl, List.drop_succ_cons, List.drop_zero, vl_one, vl_two, h0']
    rfl
theorem rd_four {l : List UInt8} {k : Int} (hk : k = 4 ∨ k = 5) (h : l.length = 7) (h0 : ((l[0]!).toNat : Int) = k) : rd l = [k, 0, 0, 0, 0, 0, 0, 0, 0, ((l[1]!).toNat : Int), ((((l[2]!).toNat : Int) * 256 + ((l[3]!).toNat : Int)) * 256 + ((l[4]!).toNat : Int)) * 256 + ((l[5]!).toNat : Int)] := by
  match l, h with
  | [x0, x1, x2, x3, x4, x5, x6], _ =>
    have h0' : (x0.toNat : Int) = k := h0
    have ho : offs k = [(0, 1), (9, 1), (10, 4)] := by rcases hk with rfl | rfl <;> rfl
    show rdl (zero11.set 0 (x0.toNat : Int)) _ (offs (x0.toNat : Int)) = _
    rw [h0', ho]
    simp only [rdl, List.drop_succ_cons, List.drop_zero, vl_one, vl_four, h0']
    rfl
end Go.Proofs.YtndkabnmffgebaaDoor.wir
