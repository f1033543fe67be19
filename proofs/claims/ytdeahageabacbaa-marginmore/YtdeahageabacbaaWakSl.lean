/- Orders as they lie in memory. -/
import Derived.Test.YtdeahageabacbaaOwnGen
namespace Go.Proofs.Ytdeahageabacbaa.wak
open Go.RowKit Go.Proofs.Ytdeahageabacbaa.spn Go.Proofs.Ytdeahageabacbaa.ord

instance : Inhabited O := ⟨zeroO⟩
/-- The eight cells of an order. -/
def oL (o : O) : List Value := [.int .i64 o.id, .int .i64 o.who, .int .i64 o.side, .int .i64 o.kind, .int .i64 o.price, .int .i64 o.qty, .int .i64 o.shw, .int .i64 o.stop]
theorem oL_agg (o : O) : oV o = .agg (oL o).toArray := rfl
/-- Rests lie in a block from an offset on. -/
def Lies (w : World) (b o : Nat) (zs : List O) : Prop := ∀ j, j < zs.length → ∀ i v, (oL zs[j]!)[i]? = some v → w.cell? ⟨b, o + j * 8 + i, none⟩ = some v
/-- A slice value that reads as a list of rests. -/
def SL (w : World) (v : Value) (zs : List O) : Prop :=
  (v = .slice none 0 0 ∧ zs = []) ∨ ∃ b o c, v = .slice (some ⟨b, o, none⟩) zs.length c ∧ zs.length ≤ c ∧ c ≤ 9223372036854775807 ∧ b < w.heap.size ∧ Lies w b o zs

theorem Lies.below {w w' : World} {b o : Nat} {zs : List O} (h : Lies w b o zs) (hb : b < w.heap.size) (hB : Below w.heap.size w w') : Lies w' b o zs :=
  fun j hj i v hv => (hB.cell (p := ⟨b, o + j * 8 + i, none⟩) hb).trans (h j hj i v hv)
theorem SL.below {w w' : World} {v : Value} {zs : List O} (h : SL w v zs) (hB : Below w.heap.size w w') : SL w' v zs := by
  rcases h with h | ⟨b, o, c, h1, h2, h3, h4, h5⟩
  · exact .inl h
  · exact .inr ⟨b, o, c, h1, h2, h3, Nat.lt_of_lt_of_le h4 hB.size, h5.below h4 hB⟩
theorem getE {α : Type} [Inhabited α] (l : List α) (j : Nat) (h : j < l.length) : l[j]! = l[j] := by simp [h]
theorem Lies.take {w : World} {b o : Nat} {zs : List O} (h : Lies w b o zs) (n : Nat) : Lies w b o (zs.take n) := by
  intro j hj i v hv
  have hj2 : j < n ∧ j < zs.length := by rw [List.length_take] at hj; omega
  have e : (zs.take n)[j]! = zs[j]! := by
    rw [getE _ _ hj, getE _ _ hj2.2, List.getElem_take]
  rw [e] at hv
  exact h j hj2.2 i v hv

/-- The cells of a queue. -/
def flat (zs : List O) : List Value := zs.flatMap oL
theorem flat_cons (r : O) (t : List O) : flat (r :: t) = oL r ++ flat t := rfl
theorem flat_append (a b : List O) : flat (a ++ b) = flat a ++ flat b := by unfold flat; rw [List.flatMap_append]
theorem flat_len (zs : List O) : (flat zs).length = zs.length * 8 := by
  induction zs with
  | nil => rfl
  | cons r t ih => rw [flat_cons, List.length_append, ih, List.length_cons]; show 8 + t.length * 8 = _; omega
theorem flat_get (zs : List O) : ∀ j, j < zs.length → ∀ i, i < 8 → (flat zs)[j * 8 + i]? = (oL zs[j]!)[i]? := by
  induction zs with
  | nil => intro j hj; simp at hj
  | cons r t ih =>
    intro j hj i hi
    rw [flat_cons]
    cases j with
    | zero => rw [Nat.zero_mul, Nat.zero_add, List.getElem?_append_left (by show i < 8; exact hi)]; rfl
    | succ j =>
      rw [List.getElem?_append_right (by show 8 ≤ _; omega)]
      have : (j + 1) * 8 + i - (oL r).length = j * 8 + i := by show (j + 1) * 8 + i - 8 = _; omega
      rw [this, ih j (by simpa using hj) i hi]
      rfl
theorem flat_one (zs : List O) : ∀ u ∈ flat zs, u.oneCell' = true := by
  intro u hu
  obtain ⟨r, _, hr⟩ := List.mem_flatMap.1 hu
  simp only [oL, List.mem_cons, List.not_mem_nil, or_false] at hr
  rcases hr with rfl | rfl | rfl | rfl | rfl | rfl | rfl | rfl <;> rfl
theorem lies_flat {w : World} {b o : Nat} {zs : List O} (h : Lies w b o zs) : ∀ j u, (flat zs)[j]? = some u → w.cell? ((⟨b, o, none⟩ : Addr).add j) = some u := by
  intro j u hu
  have hj : j < zs.length * 8 := by rw [← flat_len]; exact (List.getElem?_eq_some_iff.1 hu).1
  rw [Addr.add_lit]
  have e : j = j / 8 * 8 + j % 8 := by omega
  rw [e, flat_get zs (j / 8) (by omega) (j % 8) (by omega)] at hu
  have := h (j / 8) (by omega) (j % 8) u hu
  rw [← this]
  congr 2
  omega
theorem flat_lies {w : World} {b o : Nat} {zs : List O} (h : ∀ j u, (flat zs)[j]? = some u → w.cell? ⟨b, o + j, none⟩ = some u) : Lies w b o zs := by
  intro j hj i v hv
  have hi : i < 8 := (List.getElem?_eq_some_iff.1 hv).1
  have := h (j * 8 + i) v (by rw [flat_get zs j hj i hi]; exact hv)
  rw [← this, Nat.add_assoc]

/-- A queue of the call's own. -/
abbrev OwnQ (w : World) (base : Nat) (v : Value) (zs : List O) : Prop := OwnM w base 26 8 v zs.length (flat zs)
theorem OwnQ.sl {w : World} {base : Nat} {v : Value} {zs : List O} (h : OwnQ w base v zs) : SL w v zs := by
  rcases h.2 with ⟨rfl, hn⟩ | ⟨g, off, cap, cur, rfl, hb, hg, hnc, hcm, hcs, htake⟩
  · exact .inl ⟨rfl, List.eq_nil_of_length_eq_zero hn⟩
  · refine .inr ⟨g, off, cap, rfl, hnc, by simpa [maxLen] using hcm, (Array.getElem?_eq_some_iff.1 hg).1, flat_lies ?_⟩
    intro j u hu
    rw [cell_of_row w g (off + j) cur _ (0, 0) hg]
    rw [← htake, List.getElem?_take] at hu
    split at hu
    · rw [List.getElem?_drop] at hu; simpa using hu
    · cases hu

def zeroR : Value := .agg #[.int .i64 0, .int .i64 0, .int .i64 0, .int .i64 0, .int .i64 0, .int .i64 0, .int .i64 0, .int .i64 0]
theorem infoR : (Try.prog.info? 26).map (fun i => (i.zero, i.size, i.bytes)) = some (some zeroR, 8, 64) := by kernel_rfl
theorem infoR' : ∃ i, Try.prog.info? 26 = some i ∧ i.zero = some zeroR ∧ i.size = 8 ∧ i.bytes = 64 := by
  have h := infoR
  cases hq : Try.prog.info? 26 with
  | none => rw [hq] at h; simp at h
  | some i =>
    rw [hq] at h
    simp only [Option.map_some, Option.some.injEq, Prod.mk.injEq] at h
    exact ⟨i, rfl, h.1, h.2.1, h.2.2⟩


end Go.Proofs.Ytdeahageabacbaa.wak
