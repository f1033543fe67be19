/- Package wire in plain words: what is written of a command, its bytes, and what bytes say. -/
import Derived.Test.YtndkabnmffgebaaDoorProg
import Derived.WalkKit
import Derived.ProofKit
import Derived.Outline
import Derived.WalkSpells
import Derived.WalkLawsBesides
import Derived.Below
import Derived.Handy
import Derived.Deep.RegionHeld3
import Derived.Deep.AppendLies
import Derived.Deep.DrawnRows
import Derived.Deep.CutRange
import Derived.Deep.DeepCutAuto
import Derived.Deep.MidRow
import Derived.BigQuiet
import Derived.Lib.AppendZeros
import Derived.Lib.AppendStr
import Derived.Laws.OwnMore
import Derived.Maps.AppendAt
namespace Go.Proofs.YtndkabnmffgebaaDoor.wir
open Go.RowKit

theorem hidW {p : Prop} (h : p) : Hid p := h
theorem getW {α : Type} [Inhabited α] (l : List α) (j : Nat) (h : j < l.length) : l[j]! = l[j] := by simp [h]

/-- What is written of a command of this What: where each field stands among the eleven numbers, and in how many bytes. -/
def offs (k : Int) : List (Nat × Nat) :=
  (0, 1) :: (if k = 1 then [(1, 2), (2, 2), (3, 2), (4, 2), (5, 2), (6, 2), (7, 2), (8, 2)] else if k = 2 then [(1, 2)] else if k = 3 then [(1, 2), (5, 2), (6, 2)] else if k = 4 ∨ k = 5 then [(9, 1), (10, 4)] else [])

/-- The byte of a number that stands so many bytes ahead of its last one. -/
def bt (x : Int) (i : Nat) : UInt8 := UInt8.ofNat ((x / 2 ^ (i * 8)) % 256).toNat
/-- A number in so many bytes, the highest one first. -/
def wrt (x : Int) : Nat → List UInt8
  | 0 => []
  | s + 1 => bt x s :: wrt x s
theorem wrt_length (x : Int) (s : Nat) : (wrt x s).length = s := by induction s with | zero => rfl | succ s ih => simp [wrt, ih]
/-- The sum of bytes. -/
def sumB (l : List UInt8) : Nat := (l.map (fun b => b.toNat)).sum
/-- Bytes of fields, one behind the other. -/
def wrs (xs : List Int) (fs : List (Nat × Nat)) : List UInt8 := fs.flatMap (fun f => wrt (xs[f.1]!) f.2)
def lastB (l : List UInt8) : UInt8 := UInt8.ofNat (sumB l % 251)
/-- The bytes of a command. -/
def enc (xs : List Int) : List UInt8 := wrs xs (offs (xs[0]!)) ++ [lastB (wrs xs (offs (xs[0]!)))]
/-- The number that bytes say. -/
def vl (l : List UInt8) : Int := l.foldl (fun n b => n * 256 + (b.toNat : Int)) 0
/-- What bytes say of fields. -/
def rdl (xs : List Int) (b : List UInt8) : List (Nat × Nat) → List Int
  | [] => xs
  | f :: r => rdl (xs.set f.1 (vl (b.take f.2))) (b.drop f.2) r
def zero11 : List Int := [0, 0, 0, 0, 0, 0, 0, 0, 0, 0, 0]
def rd (b : List UInt8) : List Int :=
  match b with
  | [] => zero11
  | h :: t => rdl (zero11.set 0 (h.toNat : Int)) (h :: t) (offs (h.toNat : Int))

theorem bt_nat (x : Int) (i : Nat) : ((bt x i).toNat : Int) = (x / 2 ^ (i * 8)) % 256 := by
  have h1 : 0 ≤ (x / 2 ^ (i * 8)) % 256 := Int.emod_nonneg _ (by decide)
  have h2 : (x / 2 ^ (i * 8)) % 256 < 256 := Int.emod_lt_of_pos _ (by decide)
  unfold bt
  rw [UInt8.toNat_ofNat']
  omega
theorem vl1 {x : Int} (h0 : 0 ≤ x) (h1 : x < 256) : vl (wrt x 1) = x := by
  have e0 := bt_nat x 0
  simp only [Nat.zero_mul, Int.pow_zero, Int.ediv_one] at e0
  show (0 : Int) * 256 + ((bt x 0).toNat : Int) = x
  omega
theorem vl2 {x : Int} (h0 : 0 ≤ x) (h1 : x < 65536) : vl (wrt x 2) = x := by
  have e0 := bt_nat x 0
  have e1 := bt_nat x 1
  simp only [Nat.zero_mul, Int.pow_zero, Int.ediv_one] at e0
  have e1' : ((bt x 1).toNat : Int) = (x / 256) % 256 := e1
  show ((0 : Int) * 256 + ((bt x 1).toNat : Int)) * 256 + ((bt x 0).toNat : Int) = x
  omega
theorem vl4 {x : Int} (h0 : 0 ≤ x) (h1 : x < 4294967296) : vl (wrt x 4) = x := by
  have e0 := bt_nat x 0
  have e1 := bt_nat x 1
  have e2 := bt_nat x 2
  have e3 := bt_nat x 3
  simp only [Nat.zero_mul, Int.pow_zero, Int.ediv_one] at e0
  have e1' : ((bt x 1).toNat : Int) = (x / 256) % 256 := e1
  have e2' : ((bt x 2).toNat : Int) = (x / 65536) % 256 := e2
  have e3' : ((bt x 3).toNat : Int) = (x / 16777216) % 256 := e3
  show ((((0 : Int) * 256 + ((bt x 3).toNat : Int)) * 256 + ((bt x 2).toNat : Int)) * 256 + ((bt x 1).toNat : Int)) * 256 + ((bt x 0).toNat : Int) = x
  omega

/-- What fields' bytes say, one field after the other. -/
theorem rdl_step {x : Int} {s : Nat} (hv : vl (wrt x s) = x) (o : Nat) (zs : List Int) (b : List UInt8) (r : List (Nat × Nat)) :
    rdl zs (wrt x s ++ b) ((o, s) :: r) = rdl (zs.set o x) b r := by
  have h1 : (wrt x s ++ b).take s = wrt x s := by rw [List.take_append_of_le_length (by rw [wrt_length]; exact Nat.le_refl _), List.take_of_length_le (by rw [wrt_length]; exact Nat.le_refl _)]
  have h2 : (wrt x s ++ b).drop s = b := by
    have := List.drop_left (l₁ := wrt x s) (l₂ := b)
    rwa [wrt_length] at this
  show rdl (zs.set o (vl ((wrt x s ++ b).take s))) ((wrt x s ++ b).drop s) r = _
  rw [h1, h2, hv]
theorem bt_head (k : Int) (h0 : 0 ≤ k) (h1 : k < 256) : ((bt k 0).toNat : Int) = k := by
  have e0 := bt_nat k 0
  simp only [Nat.zero_mul, Int.pow_zero, Int.ediv_one] at e0
  omega
end Go.Proofs.YtndkabnmffgebaaDoor.wir
