/- The walk of QueueTells. -/
import Derived.Test.YtefolhkecgcigaaDoorQueRef5
import Derived.Test.YtefolhkecgcigaaDoorQueDrop
import Derived.Test.YtefolhkecgcigaaDoorQueTake3
import Derived.Test.YtefolhkecgcigaaDoorTold
namespace Go.Proofs.YtefolhkecgcigaaDoor.que
open Go.RowKit Go.Proofs.YtefolhkecgcigaaDoor.spn

theorem int_eq {a b : Int} (h : a = b) : (Value.int .i64 a) = .int .i64 b := by rw [h]
theorem bool_eq {a b : Bool} (h : a = b) : Value.bool a = .bool b := by rw [h]

/-- What the walk holds: what lay there lies there, the rest that came in is boxed, the errors' variable is as it was. -/
structure QI (B w : World) (r1 r2 r3 r4 r5 : Int) (wx : World) : Prop where
  inv : told.Inv B wx
  far : Below w.heap.size w wx
  box : wx.heap[w.heap.size]? = some (.cells #[.int .i64 r1, .int .i64 r2, .int .i64 r3, .int .i64 r4, .int .i64 r5] 24 (0, 0))
theorem QI.lt {B w wx : World} {r1 r2 r3 r4 r5 : Int} (h : QI B w r1 r2 r3 r4 r5 wx) : w.heap.size < wx.heap.size := (Array.getElem?_eq_some_iff.1 h.box).1
theorem QI.on {B w wx wy : World} {r1 r2 r3 r4 r5 : Int} (h : QI B w r1 r2 r3 r4 r5 wx) (hb : Below wx.heap.size wx wy) : QI B w r1 r2 r3 r4 r5 wy :=
  ⟨h.inv.on hb, h.far.trans (hb.mono h.far.size), (hb.block w.heap.size h.lt).trans h.box⟩
/-- A block of five that lies there. -/
def Row5 (wx : World) (X : Nat) (a b c d e : Int) : Prop := wx.heap[X]? = some (.cells #[.int .i64 a, .int .i64 b, .int .i64 c, .int .i64 d, .int .i64 e] 24 (0, 0))
theorem Row5.on {wx wy : World} {X : Nat} {a b c d e : Int} (h : Row5 wx X a b c d e) (hb : Below wx.heap.size wx wy) : Row5 wy X a b c d e := (hb.block X (Array.getElem?_eq_some_iff.1 h).1).trans h

def f1 (zs : List R) (r : R) : Int := if qchk zs = 0 then rchk r else qchk zs
def f2 (zs : List R) (r : R) : Int := if f1 zs r = 0 ∧ 0 ≤ idx r.id zs then 7 else f1 zs r
def f3 (zs : List R) (r : R) : Int := if f2 zs r = 0 ∧ 60 ≤ zs.length then 4 else f2 zs r
theorem f3_is (zs : List R) (r : R) : f3 zs r = pchk zs r := by
  unfold f3 f2 f1 pchk
  by_cases h0 : qchk zs = 0
  · obtain ⟨h60, -⟩ := (qchk_zero zs).1 h0
    simp only [if_pos h0]
    rw [bchk_idx]
    by_cases h1 : rchk r = 0
    · simp only [h1, true_and, if_true]
      by_cases h2 : 0 ≤ idx r.id zs
      · simp only [if_pos h2]
        rw [if_neg (by omega), if_neg (by decide)]
      · simp only [if_neg h2, true_and, if_true]
        by_cases h3 : zs.length = 60
        · rw [if_pos (by omega), if_pos h3]
        · rw [if_neg (by omega), if_neg h3]
    · simp only [h1, false_and, if_false]
  · simp only [h0, false_and, if_false]

theorem own_nil (w : World) (base : Nat) : OwnQ w base (.slice none 0 0) [] := ⟨rfl, .inl ⟨rfl, rfl⟩⟩

theorem push_sl (v : Value) (zs : List R) (a b c d e : Int) (w : World) (h : SL w v zs) :
    Calls Tryd.prog 12 #[v, .agg #[.int .i64 a, .int .i64 b, .int .i64 c, .int .i64 d, .int .i64 e]] w fun x w' => ∃ lv, x = .returned (.tuple #[lv, errV (f3 zs ⟨a, b, c, d, e⟩)]) ∧ SL w' lv (if f3 zs ⟨a, b, c, d, e⟩ = 0 then zs ++ [⟨a, b, c, d, e⟩] else []) ∧ Below w.heap.size w w' := by
  refine (push_any v zs a b c d e w h).mono ?_
  rintro x w' ⟨lv, rfl, i1, i2, i3⟩
  rw [f3_is]
  refine ⟨lv, rfl, ?_, i3⟩
  by_cases h0 : pchk zs ⟨a, b, c, d, e⟩ = 0
  · rw [if_pos h0]; exact OwnQ.sl (i1 h0)
  · rw [if_neg h0, i2 h0]; exact .inl ⟨rfl, rfl⟩

/-- What is left when an id is dropped, and what is dropped. -/
def dl (zs : List R) (id : Int) : List R := if dchk zs id = 0 then zs.take (idx id zs).toNat ++ zs.drop ((idx id zs).toNat + 1) else []
def dr (zs : List R) (id : Int) : R := if dchk zs id = 0 then zs[(idx id zs).toNat]! else ⟨0, 0, 0, 0, 0⟩
theorem drop_sl (v : Value) (zs : List R) (id : Int) (w : World) (h : SL w v zs) :
    Calls Tryd.prog 15 #[v, .int .i64 id] w fun x w' => ∃ lv, x = .returned (.tuple #[lv, .agg #[.int .i64 (dr zs id).id, .int .i64 (dr zs id).who, .int .i64 (dr zs id).qty, .int .i64 (dr zs id).hid, .int .i64 (dr zs id).shw], errV (dchk zs id)]) ∧ SL w' lv (dl zs id) ∧ Below w.heap.size w w' := by
  refine (drop_any v zs id w h).mono ?_
  rintro x w' ⟨lv, r, rfl, i1, i2, i3⟩
  have hr : r = dr zs id := by
    unfold dr
    by_cases h0 : dchk zs id = 0
    · rw [if_pos h0]; exact (i1 h0).2
    · rw [if_neg h0]; exact (i2 h0).2
  subst hr
  refine ⟨lv, rfl, ?_, i3⟩
  unfold dl
  by_cases h0 : dchk zs id = 0
  · rw [if_pos h0]; exact OwnQ.sl (i1 h0).1
  · rw [if_neg h0, (i2 h0).1]; exact .inl ⟨rfl, rfl⟩

def tf (zs : List R) (n : Int) : List F := if tchk zs n = 0 then (take n zs).1 else []
def tl (zs : List R) (n : Int) : List R := if tchk zs n = 0 then (take n zs).2 else []
theorem take_sl (v : Value) (zs : List R) (n : Int) (w : World) (h : SL w v zs) :
    Calls Tryd.prog 17 #[v, .int .i64 n] w fun x w' => ∃ fv lv, x = .returned (.tuple #[fv, lv, errV (tchk zs n)]) ∧ SF w' fv (tf zs n) ∧ SL w' lv (tl zs n) ∧ Below w.heap.size w w' := by
  refine (take_any v zs n w h).mono ?_
  rintro x w' ⟨fv, lv, rfl, i1, i2, i3⟩
  refine ⟨fv, lv, rfl, ?_, ?_, i3⟩
  · unfold tf
    by_cases h0 : tchk zs n = 0
    · rw [if_pos h0]; exact OwnF.sf (i1 h0).1
    · rw [if_neg h0, (i2 h0).1]; exact .inl ⟨rfl, rfl⟩
  · unfold tl
    by_cases h0 : tchk zs n = 0
    · rw [if_pos h0]; exact OwnQ.sl (i1 h0).2
    · rw [if_neg h0, (i2 h0).2]; exact .inl ⟨rfl, rfl⟩

theorem err_same (B w : World) (r1 r2 r3 r4 r5 k : Int) (wx : World) (h : QI B w r1 r2 r3 r4 r5 wx) :
    Calls Tryd.prog 6 #[errV k, .int .i64 k] wx fun ev w' => ev = .returned (.bool true) ∧ Below wx.heap.size wx w' := by
  refine (told.error_any wx k k wx (told.Inv.start h.inv.laid)).mono ?_
  rintro e w' ⟨rfl, h'⟩
  exact ⟨by rw [beq_self_eq_true], h'.2⟩

theorem e5_is (zs : List R) (n : Int) : (if qchk zs = 0 ∧ ¬ (1 ≤ n ∧ n ≤ 10000) then 1 else qchk zs) = tchk zs n := by
  unfold tchk
  by_cases h0 : qchk zs = 0
  · by_cases h1 : 1 ≤ n ∧ n ≤ 10000
    · rw [if_pos h0, if_pos h1, if_neg (by simp [h1]), h0]
    · rw [if_pos h0, if_neg h1, if_pos ⟨h0, h1⟩]
  · rw [if_neg h0, if_neg (by simp [h0])]

end Go.Proofs.YtefolhkecgcigaaDoor.que
