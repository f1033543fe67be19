/- Contracts over this seat's translation: the document's ReadBytes. -/
import Derived.Test.YtndkabnmffgebaaDoorWTRp
import Derived.BigRegion
import Derived.Test.YtndkabnmffgebaaDoorWTCmd
namespace Go.Proofs.YtndkabnmffgebaaDoor.wir
open Go.RowKit
open Go.Proofs.YtndkabnmffgebaaDoor.wak (OwnM step_append_mid)

/-- What ReadBytes tells. -/
def rrV : Option (List Int) → Value
  | some xs => .tuple #[cV xs, .bool true]
  | none => .tuple #[cV zero11, .bool false]
theorem infoI : ∃ i, Tryd.prog.info? 3 = some i ∧ i.zero = some (.int .i64 0) ∧ i.size = 1 ∧ i.bytes = 8 := by
  have h : ((Tryd.prog.info? 3).map (fun i => (i.zero, i.size, i.bytes))) = some (some (.int .i64 0), 1, 8) := by kernel_rfl
  obtain ⟨i, hi, he⟩ := Option.map_eq_some_iff.1 h
  simp only [Prod.mk.injEq] at he
  exact ⟨i, hi, he.1, he.2.1, he.2.2⟩
/-- Numbers of two bytes each, behind the first byte. -/
def prs (b : List UInt8) (k : Nat) : List Int := (List.range k).map fun j => nb2 b (1 + 2 * j)
theorem prs_length (b : List UInt8) (k : Nat) : (prs b k).length = k := by simp [prs]
theorem prs_succ (b : List UInt8) (k : Nat) : prs b (k + 1) = prs b k ++ [nb2 b (1 + 2 * k)] := by simp [prs, List.range_succ]
theorem iL_append (a b : List Int) : iL (a ++ b) = iL a ++ iL b := by simp [iL]
theorem prs_at (b : List UInt8) {j k : Nat} (h : j < k) : (iL (prs b k))[j]? = some (.int .i64 (nb2 b (1 + 2 * j))) := by
  rw [iL_at (by rw [prs_length]; exact h), getW _ _ (by rw [prs_length]; exact h)]
  simp [prs]

theorem cell1d {w : World} {e : TypeId} {u : Value} : ∀ j x, [u][j]? = some x → (w.alloc (.cells #[u] e)).drew.cell? ((⟨w.heap.size, 0, none⟩ : Addr).add j) = some x := fun j x hx => cell1 j x hx
theorem ownm_on {w : World} {B : Nat} {e : TypeId} {sz : Nat} {v : Value} {n : Nat} {xs : List Value} {o : Obj} (h : OwnM w B e sz v n xs) : OwnM (w.alloc o).drew B e sz v n xs := OwnM.below h ((Below.refl _ _).alloc (Nat.le_refl _) _).drew
theorem hg_set {W w0 : World} {g : Nat} {p : Addr} {v : Value} (h : W.heap[g]? = w0.heap[g]?) (hne : g ≠ p.block) : (W.setCell p v).heap[g]? = w0.heap[g]? := (heap_setCell_other W p g v hne).trans h
theorem hg_drew {W w0 : World} {g : Nat} (h : W.heap[g]? = w0.heap[g]?) : W.drew.heap[g]? = w0.heap[g]? := h
theorem hg_drewN {W w0 : World} {g n : Nat} (h : W.heap[g]? = w0.heap[g]?) : (W.drewN n).heap[g]? = w0.heap[g]? := h
theorem neq_text {a b : ByteArray} (h : ¬ a = b) : (a.toList == b.toList) = false := by
  rw [ByteArray.toList_eq, ByteArray.toList_eq, beq_eq_false_iff_ne]
  exact fun e => h ((tx_bl a).symm.trans ((congrArg tx e).trans (tx_bl b)))
theorem Cmd.drew {W : World} {b : Nat} {xs : List Int} (h : Cmd W b xs) : Cmd W.drew b xs := h
theorem Cmd.drewN {W : World} {b n : Nat} {xs : List Int} (h : Cmd W b xs) : Cmd (W.drewN n) b xs := h
end Go.Proofs.YtndkabnmffgebaaDoor.wir
