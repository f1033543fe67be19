/- Plain facts: a book of one level with two rests, as it is laid, and with less of its first. -/
import Derived.Test.YtjphhieloicdeaaSwpDo
namespace Go.Proofs.Ytjphhieloicdeaa.swp
open Go.RowKit Go.Proofs.Ytjphhieloicdeaa.spn Go.Proofs.Ytjphhieloicdeaa.que Go.Proofs.Ytjphhieloicdeaa.sid Go.Proofs.Ytjphhieloicdeaa.bok
open Go.Proofs.Ytjphhieloicdeaa.tickP (priceB)

def lsB (q h sh : Int) : List L := [⟨100, [⟨1, 1, q, h, sh⟩, ⟨2, 2, 4, 0, 0⟩]⟩]
theorem ls_base : At (lsB 5 0 0) [] 1 1 100 ⟨1, 1, 5, 0, 0⟩ 0 0 :=
  ⟨lsB 5 0 0, ⟨by decide, by decide, by decide, by decide, .inl ⟨rfl, rfl, by decide, by decide⟩⟩, rfl, rfl⟩
theorem ls_at {q h sh : Int} (hr : rchk ⟨1, 1, q, h, sh⟩ = 0) : At (lsB q h sh) [] 1 1 100 ⟨1, 1, q, h, sh⟩ 0 0 :=
  ls_base.keep (r' := ⟨1, 1, q, h, sh⟩) rfl hr
theorem ls_less (q h sh n : Int) : kB 1 (lsB q h sh) 0 0 (lessR ⟨1, 1, q, h, sh⟩ n) = lsB (min q n) (n - min q n) sh := rfl
theorem ls_none (i k : Nat) (r : R) : kS 1 [] i k r = [] := rfl
theorem price100 : priceB 100 = true := by decide
/-- Two rests of a level as they are laid. -/
theorem two_lay (a b c d e : Int) (w : World) : LS ((w.alloc (.cells #[.int .i64 a, .int .i64 b, .int .i64 c, .int .i64 d, .int .i64 e, .int .i64 2, .int .i64 2, .int .i64 4, .int .i64 0, .int .i64 0] 26)).alloc (.cells #[.int .i64 100, .slice (some ⟨w.heap.size, 0, none⟩) 2 2] 29)) (.slice (some ⟨w.heap.size + 1, 0, none⟩) 1 1) [⟨100, [⟨a, b, c, d, e⟩, ⟨2, 2, 4, 0, 0⟩]⟩] := by
  obtain ⟨w1, h1⟩ : ∃ w1, w1 = w.alloc (.cells #[.int .i64 a, .int .i64 b, .int .i64 c, .int .i64 d, .int .i64 e, .int .i64 2, .int .i64 2, .int .i64 4, .int .i64 0, .int .i64 0] 26) := ⟨_, rfl⟩
  have hs1 : w1.heap.size = w.heap.size + 1 := by rw [h1]; simp
  have hr1 := heap_alloc_new w (.cells #[.int .i64 a, .int .i64 b, .int .i64 c, .int .i64 d, .int .i64 e, .int .i64 2, .int .i64 2, .int .i64 4, .int .i64 0, .int .i64 0] 26)
  rw [← h1] at hr1 ⊢
  obtain ⟨w2, h2⟩ : ∃ w2, w2 = w1.alloc (.cells #[.int .i64 100, .slice (some ⟨w.heap.size, 0, none⟩) 2 2] 29) := ⟨_, rfl⟩
  have hr2 := heap_alloc_new w1 (.cells #[.int .i64 100, .slice (some ⟨w.heap.size, 0, none⟩) 2 2] 29)
  have hB2 : Below w1.heap.size w1 w2 := by rw [h2]; exact (Below.refl _ _).alloc (Nat.le_refl _) _
  rw [← h2] at hr2 ⊢
  have hr1' := (hB2.block w.heap.size (by omega)).trans hr1
  rw [hs1] at hr2
  have hQ : OwnQ w2 0 (.slice (some ⟨w.heap.size, 0, none⟩) 2 2) [⟨a, b, c, d, e⟩, ⟨2, 2, 4, 0, 0⟩] := ⟨rfl, .inr ⟨w.heap.size, 0, 2, _, rfl, Nat.zero_le _, hr1', Nat.le_refl _, by unfold maxLen; omega, by simp, rfl⟩⟩
  have hLv : rlv.OwnQ w2 0 (.slice (some ⟨w.heap.size + 1, 0, none⟩) 1 1) [⟨100, some ⟨w.heap.size, 0, none⟩, 2, 2⟩] := ⟨rfl, .inr ⟨w.heap.size + 1, 0, 1, _, rfl, Nat.zero_le _, hr2, Nat.le_refl _, by unfold maxLen; omega, by simp, rfl⟩⟩
  have h : LS w2 (.slice (some ⟨w.heap.size + 1, 0, none⟩) 1 1) (([(⟨100, some ⟨w.heap.size, 0, none⟩, 2, 2⟩, [⟨a, b, c, d, e⟩, ⟨2, 2, 4, 0, 0⟩])] : List RP).map toL) :=
    Loose.ls ⟨rlv.OwnQ.sl hLv, fun p hp => by simp only [List.mem_singleton] at hp; subst hp; exact .inl (OwnQ.sl hQ)⟩
  exact h
/-- What the loop of SwapLess keeps of its numbers. -/
def LsI (shown q h sh n : Int) : Prop := rchk ⟨1, 1, q, h, sh⟩ = 0 ∧ q ≤ shown ∧ (0 < h → q = shown) ∧ n ≤ q + h
theorem LsI.step {shown q h sh n : Int} (H : LsI shown q h sh n) (h1 : 1 ≤ n) (h2 : n ≤ 100) : rchk ⟨1, 1, min q n, n - min q n, sh⟩ = 0 ∧ LsI shown (min q n) (n - min q n) sh (n - 1) ∧ keepB 100 ⟨1, 1, q, h, sh⟩ 100 n = true ∧ wrap64 (min q n + (n - min q n)) = n ∧ min q n ≤ shown ∧ (0 < n - min q n → min q n = shown) := by
  obtain ⟨a, b, c, d⟩ := H
  have hr : rchk ⟨1, 1, min q n, n - min q n, sh⟩ = 0 := rchk_less a h1 d
  refine ⟨hr, ⟨hr, by omega, by omega, by omega⟩, ?_, by unfold wrap64; omega, by omega, by omega⟩
  unfold keepB
  simp [d]
end Go.Proofs.Ytjphhieloicdeaa.swp
