/- Contracts over this seat's translation: call.line. -/
import Derived.Test.YtabcfmpmkdoieaaDoorCalCmp
namespace Go.Proofs.YtabcfmpmkdoieaaDoor.cal
open Go.RowKit Go.Lib Go.Sort Go.Proofs.YtabcfmpmkdoieaaDoor.ord
open Go.Proofs.YtabcfmpmkdoieaaDoor.wak (Lies SL oL OwnM OwnQ flat own_of own_range wpList_append_mid gr_below gr_trans gr_alloc)
open Go.Proofs.YtabcfmpmkdoieaaDoor.spn (keeps bcell)

/-- The numbers of a side's orders among the first k, as they came. -/
def idxs (side : Int) (zs : List O) (k : Nat) : List Nat := (List.range k).filter (fun i => decide ((zs[i]!).side = side))
theorem idxs_succ (side : Int) (zs : List O) (k : Nat) : idxs side zs (k + 1) = if (zs[k]!).side = side then idxs side zs k ++ [k] else idxs side zs k := by
  unfold idxs
  rw [List.range_succ, List.filter_append]
  by_cases h : (zs[k]!).side = side
  · have e : decide ((zs[k]!).side = side) = true := decide_eq_true h
    rw [if_pos h]; simp only [List.filter_cons, e, List.filter_nil, if_true]
  · have e : decide ((zs[k]!).side = side) = false := decide_eq_false h
    rw [if_neg h]; simp only [List.filter_cons, e, List.filter_nil, Bool.false_eq_true, if_false, List.append_nil]
theorem idxs_mem (side : Int) (zs : List O) (k x : Nat) : x ∈ idxs side zs k ↔ x < k ∧ (zs[x]!).side = side := by
  unfold idxs; simp
theorem idxs_len (side : Int) (zs : List O) (k : Nat) : (idxs side zs k).length ≤ k := by
  unfold idxs
  have := List.length_filter_le (fun i => decide ((zs[i]!).side = side)) (List.range k)
  simpa using this
theorem idxs_up (side : Int) (zs : List O) (k : Nat) : (idxs side zs k).Pairwise (· < ·) := by
  unfold idxs
  exact List.Pairwise.filter _ List.pairwise_lt_range

/-- A slice of pointers of the call's own. -/
abbrev OwnP (w : World) (base : Nat) (v : Value) (G o : Nat) (zs : List O) (is : List Nat) : Prop := OwnM w base 77 1 v is.length (is.map (encP G o zs))

theorem one_enc (G o : Nat) (zs : List O) : OneCell (encP G o zs) := fun _ => rfl

theorem get_arr (is : List Nat) (j : Nat) : is.toArray[j]! = is[j]! := by simp
theorem holds_own {w : World} {base B off cap G o : Nat} {zs : List O} {is : List Nat} (h : OwnP w base (.slice (some ⟨B, off, none⟩) is.length cap) G o zs is) : Holds (encP G o zs) w B off is.toArray := by
  obtain ⟨h1, h2, -, h4, h5, h6, h7⟩ := own_range h
  intro j hj
  have hj' : j < is.length := by simpa using hj
  refine ⟨h6 j _ ?_, (h7 j (by omega)).2⟩
  rw [List.getElem?_map, get_arr]
  simp [hj']
theorem own_sorted {w w' : World} {base B off cap G o : Nat} {zs : List O} {is : List Nat} {d' : Array Nat} (h : OwnP w base (.slice (some ⟨B, off, none⟩) is.length cap) G o zs is) (hS : SW (encP G o zs) w B off d' w') (hl : d'.size = is.length) :
    OwnP w' base (.slice (some ⟨B, off, none⟩) is.length cap) G o zs d'.toList ∧ w.grownBy w' (some B) := by
  have hH0 := holds_own h
  obtain ⟨h1, h2, ⟨cur, h3, h3'⟩, h4, h5, h6, h7⟩ := own_range h
  have hB : B < w.heap.size := (Array.getElem?_eq_some_iff.1 h3).1
  have hH := hS.holds hB hH0 (by simpa using hl)
  obtain ⟨m, os, rfl⟩ := hS
  have hb : (sortWorld (encP G o zs) w B off m d' os).heap[B]? = some (.cells (putCells (encP G o zs) off d' cur) 77 (0, 0)) := by
    unfold sortWorld
    rw [heap_grow_old _ _ (by simpa [putRow, mapBlock, Sort.ahead] using hB)]
    simp [putRow, mapBlock, Sort.ahead, Array.getElem?_modify, h3, onCells]
  refine ⟨?_, rfl, rfl, rfl, by unfold sortWorld putRow mapBlock; simp [Sort.ahead], fun k hk hne => sortWorld_other _ w B off m k d' os hk (fun e => hne (by rw [e]))⟩
  have hl2 : d'.toList.length = is.length := by simpa using hl
  show OwnM _ _ _ _ _ _ _
  rw [hl2]
  refine own_of (by simpa using hl) h2 hb (by simpa [putCells] using h3') h4 h5 fun j u hu => ?_
  have hj : j < d'.size := by simpa using (List.getElem?_eq_some_iff.1 hu).1
  have := (hH j hj).1
  rw [this]
  rw [List.getElem?_map] at hu
  simp [hj] at hu ⊢
  exact hu

/-- What a line is: the numbers of a side's orders, who gives the best price ahead, of equal ones as they came. -/
def Line (side : Int) (zs : List O) (is : List Nat) : Prop := is.Pairwise (lt2 (keyP side zs)) ∧ ∀ x, x ∈ is ↔ x < zs.length ∧ (zs[x]!).side = side
theorem line_of {side : Int} {zs : List O} {n : Nat} {d : Array Nat} {G : Nat → Nat} (hd : Fn d n G) (hn : n = (idxs side zs zs.length).length) (hS : Srt (keyP side zs) G 0 n) (hM : Sm (fun j => (idxs side zs zs.length)[j]!) G 0 n) : Line side zs d.toList := by
  obtain ⟨d1, d2⟩ := hd
  have gl : ∀ i (h : i < d.toList.length), d.toList[i] = G i := fun i h => by
    have hi : i < d.size := by simpa using h
    have e1 := d2 i (by omega)
    rw [getElem!_pos d i hi] at e1
    rw [← e1]
    exact Array.getElem_toList _
  refine ⟨?_, fun x => ?_⟩
  · rw [List.pairwise_iff_getElem]
    intro i j hi hj hij
    have hj' : j < d.size := by simpa using hj
    rw [gl i hi, gl j hj]
    exact hS i j (Nat.zero_le _) hij (by omega)
  · rw [← idxs_mem side zs zs.length x, List.mem_iff_getElem, List.mem_iff_getElem]
    constructor
    · rintro ⟨i, hi, rfl⟩
      have hi' : i < d.size := by simpa using hi
      obtain ⟨j, -, j2, j3⟩ := hM.1 i (Nat.zero_le _) (by omega)
      refine ⟨j, by omega, ?_⟩
      rw [gl i hi, j3]
      exact (getElem!_pos _ j (by omega)).symm
    · rintro ⟨j, hj, rfl⟩
      obtain ⟨i, -, i2, i3⟩ := hM.2 j (Nat.zero_le _) (by omega)
      have hi : i < d.toList.length := by simp; omega
      refine ⟨i, hi, ?_⟩
      rw [gl i hi, i3]
      exact getElem!_pos _ j (by omega)
theorem tg_idxs (side : Int) (zs : List O) (key : Nat → Int) : TG key (fun j => (idxs side zs zs.length)[j]!) (idxs side zs zs.length).length := by
  intro i j hij hj _
  have h := List.pairwise_iff_getElem.1 (idxs_up side zs zs.length) i j (by omega) hj hij
  show (idxs side zs zs.length)[i]! < (idxs side zs zs.length)[j]!
  rw [getElem!_pos _ i (by omega), getElem!_pos _ j hj]
  exact h
theorem fn_idxs (is : List Nat) : Fn is.toArray is.length (fun j => is[j]!) := ⟨by simp, fun j _ => get_arr is j⟩

/-- What call.line leaves. -/
def LinePost (side : Int) (G o : Nat) (zs : List O) (w : World) (e : Ending) (w' : World) : Prop :=
  ∃ B off cap is, e = .returned (.slice (some ⟨B, off, none⟩) is.length cap) ∧ Line side zs is ∧ is.length ≤ zs.length ∧ OwnP w' w.heap.size (.slice (some ⟨B, off, none⟩) is.length cap) G o zs is ∧ Below w.heap.size w w'

def zeroP : Value := .pointer none
theorem infoP : (Tryd.prog.info? 77).map (fun i => (i.zero, i.size, i.bytes)) = some (some zeroP, 1, 8) := by kernel_rfl
theorem infoP' : ∃ i, Tryd.prog.info? 77 = some i ∧ i.zero = some zeroP ∧ i.size = 1 ∧ i.bytes = 8 := by
  have h := infoP
  cases hq : Tryd.prog.info? 77 with
  | none => rw [hq] at h; simp at h
  | some i =>
    rw [hq] at h
    simp only [Option.map_some, Option.some.injEq, Prod.mk.injEq] at h
    exact ⟨i, rfl, h.1, h.2.1, h.2.2⟩
end Go.Proofs.YtabcfmpmkdoieaaDoor.cal
