/- Events as text: plain. What lies with a builder. -/
import Derived.Test.YtgpbpaimfhlnhaaDoorTapTrd
import Derived.Test.YtgpbpaimfhlnhaaDoorBldNum
namespace Go.Proofs.YtgpbpaimfhlnhaaDoor.tap
open Go.RowKit Go.Proofs.YtgpbpaimfhlnhaaDoor.mee Go.Proofs.YtgpbpaimfhlnhaaDoor.flr Go.Proofs.YtgpbpaimfhlnhaaDoor.bld

/-- The numbers that are printed of an event. -/
def nums (e : Ev) : List Int := if e.what = 1 then [e.id, e.qty, e.price] else if e.what = 2 then [e.tr.maker, e.tr.taker, e.tr.qty, e.tr.price] else if e.what = 3 then [e.id, e.qty] else [e.id]
/-- The word of each number. -/
def wordB (k : Int) : List UInt8 := if k = 1 then [114, 101, 115, 116, 101, 100] else if k = 2 then [116, 114, 97, 100, 101, 100] else if k = 3 then [103, 111, 110, 101] else if k = 4 then [119, 111, 107, 101, 110] else if k = 5 then [115, 108, 101, 101, 112, 105, 110, 103] else []
def nTxt (l : List Int) : List UInt8 := l.flatMap fun n => [32] ++ dec n
/-- An event as text, without its last byte; with it. -/
def eTxt (e : Ev) : List UInt8 := wordB e.what ++ nTxt (nums e)
def pTxt (l : List Ev) : List UInt8 := l.flatMap fun e => eTxt e ++ [10]
theorem ev_range {e : Ev} (h : evB e = true) : 1 ≤ e.what ∧ e.what ≤ 5 := by
  unfold evB at h
  split at h
  · omega
  · simp [otB] at h; omega
theorem nums_ok {e : Ev} (h : evB e = true) : (nums e).length ≤ 4 ∧ ∀ n ∈ nums e, 0 ≤ n ∧ n ≤ 99999 := by
  unfold evB at h
  unfold nums
  by_cases h2 : e.what = 2
  · rw [if_pos h2] at h
    rw [if_neg (by omega), if_pos h2]
    simp [tdB] at h
    refine ⟨by simp, fun n hn => ?_⟩
    simp at hn
    rcases hn with rfl | rfl | rfl | rfl <;> omega
  · rw [if_neg h2] at h
    simp [otB] at h
    rw [if_neg h2]
    by_cases h1 : e.what = 1
    · rw [if_pos h1]
      refine ⟨by simp, fun n hn => ?_⟩
      simp at hn
      rcases hn with rfl | rfl | rfl <;> omega
    · rw [if_neg h1]
      by_cases h3 : e.what = 3
      · rw [if_pos h3]
        refine ⟨by simp, fun n hn => ?_⟩
        simp at hn
        rcases hn with rfl | rfl <;> omega
      · rw [if_neg h3]
        refine ⟨by simp, fun n hn => ?_⟩
        simp at hn
        subst hn
        omega
theorem nTxt_len : ∀ {l : List Int}, (∀ n ∈ l, 0 ≤ n ∧ n ≤ 99999) → (nTxt l).length ≤ l.length * 6
  | [], _ => by simp [nTxt]
  | a :: t, h => by
    have h1 := nTxt_len (l := t) (fun x hx => h x (by simp [hx]))
    have h2 := dec_short (h a (by simp)).1 (h a (by simp)).2
    unfold nTxt at h1 ⊢
    rw [List.flatMap_cons, List.length_append, List.length_append, List.length_cons, List.length_cons]
    simp only [List.length_nil]
    omega
theorem nTxt_take {l : List Int} {k : Nat} (hk : k < l.length) : nTxt (l.take (k + 1)) = nTxt (l.take k) ++ ([32] ++ dec l[k]!) := by
  unfold nTxt
  rw [take_succ_at hk, List.flatMap_append]
  simp
theorem wordB_len (k : Int) : (wordB k).length ≤ 8 := by
  unfold wordB
  repeat' split
  all_goals simp
theorem eTxt_len {e : Ev} (h : evB e = true) : (eTxt e).length ≤ 32 := by
  have h1 := nums_ok h
  have h2 := nTxt_len h1.2
  have h3 := wordB_len e.what
  unfold eTxt
  rw [List.length_append]
  omega
theorem pTxt_len : ∀ {l : List Ev}, (∀ e ∈ l, evB e = true) → (pTxt l).length ≤ l.length * 33
  | [], _ => by simp [pTxt]
  | a :: t, h => by
    have h1 := pTxt_len (l := t) (fun x hx => h x (by simp [hx]))
    have h2 := eTxt_len (h a (by simp))
    unfold pTxt at h1 ⊢
    rw [List.flatMap_cons, List.length_append, List.length_append, List.length_cons]
    simp only [List.length_cons, List.length_nil]
    omega
theorem pTxt_take {l : List Ev} {k : Nat} (hk : k < l.length) : pTxt (l.take (k + 1)) = pTxt (l.take k) ++ (eTxt l[k]! ++ [10]) := by
  unfold pTxt
  rw [take_succ_at hk, List.flatMap_append]
  simp
theorem pTxt_nil {l : List Ev} : pTxt l = [] ↔ l = [] := by
  cases l with
  | nil => simp [pTxt]
  | cons a t => simp [pTxt]
theorem cells_app (a b : List UInt8) : Lib.byteCells a ++ Lib.strCells ⟨b.toArray⟩ = Lib.byteCells (a ++ b) := by
  rw [Lib.strCells_toArray]
  unfold Lib.byteCells
  rw [List.map_append]
theorem cells_nl (a : List UInt8) : Lib.byteCells a ++ [.int .u8 10] = Lib.byteCells (a ++ [10]) := by
  unfold Lib.byteCells
  rw [List.map_append]
  rfl
theorem cells_len (a : List UInt8) : (Lib.byteCells a).length = a.length := by unfold Lib.byteCells; simp
theorem size_str (a : List UInt8) : (⟨a.toArray⟩ : ByteArray).size = a.length := by simp [ByteArray.size]
theorem txt_one (y : List UInt8) : ((⟨#[32]⟩ : ByteArray) ++ ⟨y.toArray⟩) = ⟨([32] ++ y).toArray⟩ := by
  rw [← app_str]
/-- A builder stays while only what is new is written. -/
theorem bld_below {B b : Nat} {l : List Value} {w w' : World} (h : Bld B b l w) (hb : Below w.heap.size w w') : Bld B b l w' := by
  have one : ∀ p, Lib.BuilderAt 58 5 B b p l w → Lib.BuilderAt 58 5 B b p l w' := by
    rintro p ⟨h1, v, h2, h3, h4⟩
    refine ⟨h1, v, (hb.block b (Array.getElem?_eq_some_iff.1 h2).1).trans h2, ⟨h3.1, ?_⟩, h4⟩
    rcases h3.2 with hn | ⟨g, cap, cur, e1, e2, e3, e4⟩
    · exact .inl hn
    · exact .inr ⟨g, cap, cur, e1, e2, (hb.block g (Array.getElem?_eq_some_iff.1 e3).1).trans e3, e4⟩
  exact h.imp (one _) (one _)
theorem bld_new (B : Nat) (w : World) (h : B ≤ w.heap.size) : Bld B w.heap.size (Lib.byteCells []) (w.alloc (.cells #[.pointer none, .slice none 0 0] 58)) :=
  .inl ⟨h, .slice none 0 0, heap_alloc_new w _, ⟨rfl, .inl ⟨rfl, rfl⟩⟩, by simp [Value.ownBlock]⟩
theorem bld_lt {B b : Nat} {l : List Value} {w : World} (h : Bld B b l w) : b < w.heap.size := by rcases h with h | h <;> exact h.lt
/-- The words' table. -/
def wordV : Array Value := #[.string ⟨#[]⟩, .string ⟨(wordB 1).toArray⟩, .string ⟨(wordB 2).toArray⟩, .string ⟨(wordB 3).toArray⟩, .string ⟨(wordB 4).toArray⟩, .string ⟨(wordB 5).toArray⟩]
def Wds (w : World) : Prop := w.var? Tryd.prog "pitfloor/tape.words" = some wordV
theorem gW : Tryd.prog.globalNamed "pitfloor/tape.words" = some 0 := by kernel_rfl
theorem Wds.on {w w' : World} {B : Nat} (h : Wds w) (hb : Below B w w') (hB : w.heap.size ≤ B) : Wds w' := Joins.var_stays gW h hb hB
theorem Wds.cell {w : World} (h : Wds w) (k : Nat) (h1 : 1 ≤ k) (h5 : k ≤ 5) : w.cell? ⟨0, k, none⟩ = some (.string ⟨(wordB k).toArray⟩) := by
  rw [World.var?_cell gW h k]
  have : k = 1 ∨ k = 2 ∨ k = 3 ∨ k = 4 ∨ k = 5 := by omega
  rcases this with rfl | rfl | rfl | rfl | rfl <;> rfl
end Go.Proofs.YtgpbpaimfhlnhaaDoor.tap
