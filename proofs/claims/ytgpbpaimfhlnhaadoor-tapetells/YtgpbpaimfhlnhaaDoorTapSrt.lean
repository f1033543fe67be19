/- Contracts over this seat's translation: slices.SortFunc at rows of three numbers, by the first. -/
import Derived.Test.YtgpbpaimfhlnhaaDoorShelfS
import Derived.Test.YtgpbpaimfhlnhaaDoorOwnGen
import Derived.Shelf.SlSortCmp.NoneTotal
namespace Go.Proofs.YtgpbpaimfhlnhaaDoor.tap
open Go.RowKit Go.Sort Go.Lib
open Go.Proofs.YtgpbpaimfhlnhaaDoor.spn (keeps)
open Go.Proofs.YtgpbpaimfhlnhaaDoor.wak (OwnM wpList_append_mid own_of own_range)

/-- A row of three numbers. -/
abbrev X3 : Type := Int × Int × Int
def xL (x : X3) : List Value := [.int .i64 x.1, .int .i64 x.2.1, .int .i64 x.2.2]
def flatX (l : List X3) : List Value := l.flatMap xL
theorem flatX_cons (e : X3) (t : List X3) : flatX (e :: t) = xL e ++ flatX t := by simp [flatX]
theorem flatX_append (a b : List X3) : flatX (a ++ b) = flatX a ++ flatX b := by unfold flatX; rw [List.flatMap_append]
theorem flatX_one (e : X3) : flatX [e] = xL e := by simp [flatX]
theorem flatX_len (l : List X3) : (flatX l).length = l.length * 3 := by
  induction l with
  | nil => rfl
  | cons r t ih =>
    rw [flatX_cons, List.length_append, ih, List.length_cons]
    show 3 + t.length * 3 = _
    omega
theorem flatX_get (l : List X3) : ∀ j, j < l.length → ∀ i, i < 3 → (flatX l)[j * 3 + i]? = (xL l[j]!)[i]? := by
  induction l with
  | nil => intro j hj; simp at hj
  | cons r t ih =>
    intro j hj i hi
    have e3 : (xL r).length = 3 := rfl
    rw [flatX_cons]
    cases j with
    | zero => rw [Nat.zero_mul, Nat.zero_add, List.getElem?_append_left (by rw [e3]; exact hi)]; rfl
    | succ j =>
      rw [List.getElem?_append_right (by rw [e3]; omega)]
      have : (j + 1) * 3 + i - (xL r).length = j * 3 + i := by rw [e3]; omega
      rw [this, ih j (by simpa using hj) i hi]
      rfl
abbrev Own3 (w : World) (base : Nat) (v : Value) (l : List X3) : Prop := OwnM w base 43 3 v l.length (flatX l)
def cf3 (x y : X3) : Int := Lib.compareInt x.1 y.1
theorem lt3 (x y : X3) : ltOf cf3 x y = decide (x.1 < y.1) := by
  unfold ltOf cf3 Lib.compareInt
  by_cases h1 : x.1 < y.1
  · simp [h1]
  · by_cases h2 : y.1 < x.1 <;> simp [h1, h2]
theorem swo3 : SWO (ltOf cf3) where
  irrefl x := by rw [lt3]; simp
  trans x y z h1 h2 := by rw [lt3] at *; simp at *; omega
  ntrans x y z h1 h2 := by rw [lt3] at *; simp at *; omega
set_option maxHeartbeats 1000000 in
theorem cl3 (a1 a2 a3 b1 b2 b3 : Int) (W : World) : Calls Tryd.prog 40 #[.agg #[.int .i64 a1, .int .i64 a2, .int .i64 a3], .agg #[.int .i64 b1, .int .i64 b2, .int .i64 b3]] W fun e w' => e = .returned (.int .i64 (Lib.compareInt a1 b1)) ∧ ∃ q os', w' = grow (W.drewN q) os' := by
  have hcon := fun W' => AnyG.cmp_Compare_int Tryd.lcmp3 a1 b1 W'
  change ∀ W', Calls Tryd.prog 41 _ _ _ at hcon
  generalize Lib.compareInt a1 b1 = r at hcon ⊢
  go_enter Tryd.func40, Tryd.ntmps40
  go_wp2_with (go_at_call 41; refine (hcon _).mono ?_; rintro e w' ⟨rfl, rfl⟩)
  go_ret
  exact ⟨rfl, 0, _, by rw [alloc_eq_grow, alloc_eq_grow, grow_grow]; rfl⟩
theorem lays3 (blk off size : Nat) (w : World) : CmpLays Tryd.prog 40 #[] xL 3 cf3 blk off size w := fun _ _ _ _ x y => cl3 x.1 x.2.1 x.2.2 y.1 y.2.1 y.2.2 _
theorem flatK_X (zs : List X3) (t : Nat) (h : t < zs.length * 3) : (flatX zs)[t]? = some (Go.Sort.flatK xL 3 zs.toArray)[t]! := by
  rw [get_flatK xL 3 zs.toArray t (by simpa using h)]
  have e : t = t / 3 * 3 + t % 3 := by omega
  have h8 : t % 3 < 3 := by omega
  conv => lhs; rw [e]
  rw [flatX_get zs (t / 3) (by omega) (t % 3) h8]
  have hl : (xL zs[t / 3]!).length = 3 := rfl
  rw [List.getElem?_eq_getElem (by rw [hl]; exact h8)]
  have hs : zs.toArray[t / 3]! = zs[t / 3]! := by simp
  rw [hs]
  congr 1
  exact (getElem!_pos (xL zs[t / 3]!) (t % 3) (by rw [hl]; exact h8)).symm
theorem holds3 {w : World} {base g off cap : Nat} {zs : List X3} (h : Own3 w base (.slice (some ⟨g, off, none⟩) zs.length cap) zs) : HoldsK xL 3 w g off zs.toArray := by
  obtain ⟨h1, h2, -, h4, h5, h6, h7⟩ := own_range h
  intro j hj
  have hj' : j < zs.length * 3 := by simpa using hj
  refine ⟨?_, (h7 j (Nat.lt_of_lt_of_le hj' (Nat.mul_le_mul_right 3 h4))).2⟩
  exact h6 j _ (flatK_X zs j hj')
theorem sorted3 {w : World} {base g off cap n : Nat} {os : Array Obj} {zs ys : List X3} (h : Own3 w base (.slice (some ⟨g, off, none⟩) zs.length cap) zs) (hl : ys.length = zs.length) :
    Own3 (sortWorldK xL 3 w g off n ys.toArray os) base (.slice (some ⟨g, off, none⟩) zs.length cap) ys ∧ w.grownBy (sortWorldK xL 3 w g off n ys.toArray os) (some g) := by
  obtain ⟨h1, h2, ⟨cur, h3, h3'⟩, h4, h5, h6, h7⟩ := own_range h
  have hg : g < w.heap.size := (Array.getElem?_eq_some_iff.1 h3).1
  have hH := holdsK_sortWorldK_c xL 3 w g off zs.toArray ys.toArray n os (holds3 h) hg (by simpa using hl)
  have hb : (sortWorldK xL 3 w g off n ys.toArray os).heap[g]? = some (.cells (putCells id off (Go.Sort.flatK xL 3 ys.toArray) cur) 43 (0, 0)) := by
    unfold sortWorldK putRowK
    rw [heap_grow_old _ _ (by simpa [Sort.ahead] using hg)]
    simp [putRow, mapBlock, Sort.ahead, Array.getElem?_modify, h3, onCells]
  refine ⟨?_, rfl, rfl, rfl, by unfold sortWorldK putRowK; simp [Sort.ahead], fun k hk hne => ?_⟩
  · show OwnM _ _ _ _ _ _ _
    rw [hl]
    refine own_of (by rw [flatX_len, hl]) h2 hb (by simpa [putCells] using h3') h4 h5 fun j u hu => ?_
    have hj : j < ys.length * 3 := by rw [← flatX_len]; exact (List.getElem?_eq_some_iff.1 hu).1
    rw [flatK_X ys j hj] at hu
    cases hu
    exact (hH j (by simpa using hj)).1
  · unfold sortWorldK putRowK
    rw [heap_grow_old _ _ (by simpa [Sort.ahead] using hk)]
    have : g ≠ k := fun e => hne (by rw [e])
    simp [putRow, mapBlock, Sort.ahead, Array.getElem?_modify, this]
/-- SortFunc at a slice of the call's own, nil too: the same rows, rising. -/
theorem sort3_any (w : World) (base : Nat) (v : Value) (zs : List X3) (h : Own3 w base v zs) (hz : zs.length ≤ 1000) :
    Calls Tryd.prog 39 #[v, .func (.func 40) #[] #[]] w fun e w' => e = .returned (.tuple #[]) ∧ ∃ ys, ys.Perm zs ∧ ys.Pairwise (fun a b => a.1 ≤ b.1) ∧ Own3 w' base v ys ∧ w.grownBy w' v.ownBlock := by
  have eg : ∀ args w, (callFunc 40 args).run Tryd.prog w = .ok (.enter 40 args) w := enters_of Tryd.func40 (by kernel_rfl) rfl
  rcases h.2 with ⟨hv, hn⟩ | ⟨g, off, cap, cur, hv, hb, h3, -⟩
  · have hnil : zs = [] := List.eq_nil_of_length_eq_zero hn
    subst hnil hv
    have hcon := AnyF.slices_SortFunc_none { Tryd.lsrt3 with } none 0 (.func (.func 40) #[] #[]) w
    change Calls Tryd.prog 39 _ _ _ at hcon
    refine hcon.mono ?_
    rintro e w' ⟨rfl, rfl⟩
    exact ⟨rfl, [], List.Perm.refl _, List.Pairwise.nil, h, ⟨rfl, rfl, rfl, Nat.le_refl _, fun _ _ _ => rfl⟩⟩
  · subst hv
    have hcon := AnyQ.slices_SortFunc Tryd.lsrt3 3 Tryd.isAgg43 Tryd.sizeOf43 xL (fun _ => rfl) (fun x v hv => by
      simp only [xL, List.mem_cons, List.not_mem_nil, or_false] at hv
      rcases hv with rfl | rfl | rfl <;> rfl) cf3 swo3 40 #[] g off cap zs.toArray w eg (lays3 g off _ w) (holds3 h) (Array.getElem?_eq_some_iff.1 h3).1 (by rw [List.size_toArray]; omega)
    change Calls Tryd.prog 39 _ _ _ at hcon
    rw [List.size_toArray] at hcon
    refine hcon.mono ?_
    rintro e w' ⟨rfl, d', n, os, hp, hs, rfl⟩
    have hl : d'.toList.length = zs.length := by have := hp.1; simpa using this
    have ho := sorted3 (n := n) (os := os) (ys := d'.toList) h hl
    rw [Array.toArray_toList] at ho
    refine ⟨rfl, d'.toList, ?_, ?_, ho.1, ho.2⟩
    · have h2 := hp.2.2
      have e1 : d'.extract 0 zs.length = d' := by
        have : zs.length = d'.size := by have := hp.1; simpa using this.symm
        rw [this]; simp
      have e2 : zs.toArray.extract 0 zs.length = zs.toArray := by simp
      rw [e1, e2] at h2
      simpa using h2
    · rw [List.pairwise_iff_getElem]
      intro i j hi hj hij
      have := hs i j (Nat.zero_le _) hij (by rw [← hl]; exact hj)
      rw [lt3] at this
      simp at hi hj
      rw [getElem!_pos d' i hi, getElem!_pos d' j hj] at this
      simp at this ⊢
      exact this
end Go.Proofs.YtgpbpaimfhlnhaaDoor.tap
