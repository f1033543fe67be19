/- Contracts over this seat's translation: side.count. How a side that comes in is read: a slice of levels, each with a slice of rests. How a book that comes in is read: a struct of two slices of levels. -/
import Derived.Test.YtnjpjieedgmffaaSidChk
import Derived.Test.YtnjpjieedgmffaaQueArg
namespace Go.Proofs.Ytnjpjieedgmffaa.sid
open Go.RowKit Go.Proofs.Ytnjpjieedgmffaa.spn Go.Proofs.Ytnjpjieedgmffaa.que

/-- Levels lie there one behind the other, and the rests of each where its slice points. -/
def LL (w : World) (b o : Nat) (ls : List L) : Prop := ∀ k, k < ls.length → w.cell? ⟨b, o + k * 2, none⟩ = some (.int .i64 ls[k]!.price) ∧ ∃ v, w.cell? ⟨b, o + k * 2 + 1, none⟩ = some v ∧ SLe w v ls[k]!.rests
/-- A slice value that reads as a list of levels. -/
def LS (w : World) (v : Value) (ls : List L) : Prop :=
  (v = .slice none 0 0 ∧ ls = []) ∨ ∃ b o c, v = .slice (some ⟨b, o, none⟩) ls.length c ∧ ls.length ≤ c ∧ c ≤ 9223372036854775807 ∧ b < w.heap.size ∧ LL w b o ls
theorem LL.below {w w' : World} {b o : Nat} {ls : List L} (h : LL w b o ls) (hb : b < w.heap.size) (hB : Below w.heap.size w w') : LL w' b o ls := by
  intro k hk
  obtain ⟨h1, v, h2, h3⟩ := h k hk
  exact ⟨(hB.cell (p := ⟨b, o + k * 2, none⟩) hb).trans h1, v, (hB.cell (p := ⟨b, o + k * 2 + 1, none⟩) hb).trans h2, h3.below hB⟩
theorem LS.below {w w' : World} {v : Value} {ls : List L} (h : LS w v ls) (hB : Below w.heap.size w w') : LS w' v ls := by
  rcases h with h | ⟨b, o, c, h1, h2, h3, h4, h5⟩
  · exact .inl h
  · exact .inr ⟨b, o, c, h1, h2, h3, Nat.lt_of_lt_of_le h4 hB.size, h5.below h4 hB⟩
theorem LL.at {w : World} {b o k : Nat} {ls : List L} (h : LL w b o ls) (hk : k < ls.length) {p : Int} {zs : List R} (he : ls[k]! = ⟨p, zs⟩) :
    ∃ q c, w.cell? ⟨b, o + k * 2, none⟩ = some (.int .i64 p) ∧ w.cell? ⟨b, o + k * 2 + 1, none⟩ = some (.slice q zs.length c) ∧ SLe w (.slice q zs.length c) zs := by
  obtain ⟨h1, v, h2, h3⟩ := h k hk
  rw [he] at h1 h3
  obtain ⟨q, c, hv⟩ := sl_form h3
  subst hv
  exact ⟨q, c, h1, h2, h3⟩
theorem ldrop_at {ls : List L} {k : Nat} (hk : k < ls.length) : ls.drop k = ls[k]! :: ls.drop (k + 1) := by
  rw [List.drop_eq_getElem_cons hk, getE _ _ hk]
theorem ltake_at {ls : List L} {k : Nat} (hk : k < ls.length) : ls.take (k + 1) = ls.take k ++ [ls[k]!] := by
  rw [List.take_succ_eq_append_getElem hk, getE _ _ hk]
theorem cnt_append (a b : List L) : cnt (a ++ b) = cnt a + cnt b := by
  induction a with
  | nil => simp [cnt]
  | cons x t ih => simp only [List.cons_append, cnt, ih]; omega
theorem cnt_take (ls : List L) (k : Nat) (hk : k < ls.length) : cnt (ls.take (k + 1)) = cnt (ls.take k) + (ls[k]!.rests.length : Int) := by
  rw [ltake_at hk, cnt_append]; simp only [cnt]; omega
theorem cnt_le (ls : List L) (h : ∀ l ∈ ls, l.rests.length ≤ 60) : 0 ≤ cnt ls ∧ cnt ls ≤ 60 * (ls.length : Int) := by
  induction ls with
  | nil => simp [cnt]
  | cons x t ih =>
    have h1 := h x (by simp)
    have h2 := ih (fun l hl => h l (by simp [hl]))
    simp only [cnt, List.length_cons]
    omega

set_option maxRecDepth 100000 in
set_option maxHeartbeats 1000000 in
theorem count_some (b o c : Nat) (ls : List L) (w : World) (hb : b < w.heap.size) (hc : ls.length ≤ c) (hl : LL w b o ls) (h60 : ∀ l ∈ ls, l.rests.length ≤ 60) (h10 : ls.length ≤ 10000) :
    Calls Try.prog 78 #[.slice (some ⟨b, o, none⟩) ls.length c] w fun e w' => e = .returned (.int .i64 (cnt ls)) ∧ Below w.heap.size w w' := by
  have HG : Hid (∀ l ∈ ls, l.rests.length ≤ 60) := h60
  have HL : Hid (LL w b o ls) := hl
  clear hl h60
  generalize hT : cnt ls = T
  have HT : Hid (cnt ls = T) := hT
  clear hT
  generalize hn : ls.length = n at *
  have HN : Hid (ls.length = n) := hn
  clear hn
  go_enter Try.func78, Try.ntmps78
  go_wp2_with fail
  go_loopg [3, 5, 8] n (fun gg s5 _ s15 wr => ∃ kk : Nat, kk ≤ n ∧ n - kk ≤ gg ∧ s15 = .int .i64 kk ∧ s5 = .int .i64 (cnt (ls.take kk)) ∧ Aside (Below w.heap.size w wr))
  case atStart => exact ⟨0, Nat.zero_le _, by omega, rfl, rfl, Below.refl _ _⟩
  case round =>
    obtain ⟨kk, hkk, hg, rfl, rfl, BW⟩ := hrel
    have hA : Hid (0 ≤ cnt (ls.take kk) ∧ cnt (ls.take kk) ≤ 60 * (kk : Int)) := by
      have := cnt_le (ls.take kk) (fun r hr => HG.out r (List.mem_of_mem_take hr))
      rw [List.length_take, HN.out, Nat.min_eq_left hkk] at this
      exact this
    by_cases hlt : kk < n
    · have hltz : (kk : Int) < (n : Int) := by omega
      have hlz : kk < ls.length := by rw [HN.out]; exact hlt
      have LW : Hid (LL wr b o ls) := HL.out.below hb BW.out
      obtain ⟨r, hr⟩ : ∃ r, ls[kk]! = r := ⟨_, rfl⟩
      obtain ⟨p, zs⟩ := r
      obtain ⟨q, cc, c0, c1, hs⟩ := LW.out.at hlz hr
      have hq := HG.out ls[kk]! (by rw [getE _ _ hlz]; exact List.getElem_mem hlz)
      rw [hr] at hq
      simp only [] at hq
      have hTT : Hid (cnt (ls.take (kk + 1)) = cnt (ls.take kk) + (zs.length : Int)) := by
        have := cnt_take ls kk hlz
        rw [hr] at this
        exact this
      clear hr hs
      obtain ⟨t1, t2⟩ := hA.out
      clear hA
      generalize cnt (ls.take kk) = t at *
      generalize zs.length = m at *
      have hbw : b < wr.heap.size := Nat.lt_of_lt_of_le hb BW.out.size
      have hin1 : ¬ ((kk : Int) < 0) := by omega
      have e2 : wrap64 (t + (m : Int)) = t + (m : Int) := by unfold wrap64; omega
      go_wp2_with fail
      go_roundg (n - (kk + 1))
      case measure => omega
      case rel => exact ⟨kk + 1, by omega, by omega, by go_num, by rw [hTT.out], BW.out.alloc BW.out.size _⟩
    · have hltz : ¬ (kk : Int) < (n : Int) := by omega
      have hk : kk = n := by omega
      subst hk
      have hT2 : cnt (ls.take kk) = T := by rw [← HT.out, List.take_of_length_le (by rw [HN.out]; exact Nat.le_refl _)]
      rw [hT2]
      go_wp2_with fail
      go_ret
      exact ⟨rfl, BW.out⟩
theorem count_nil (w : World) :
    Calls Try.prog 78 #[.slice none 0 0] w fun e w' => e = .returned (.int .i64 0) ∧ Below w.heap.size w w' := by
  go_enter Try.func78, Try.ntmps78
  go_wp2_with fail
  go_loopg [3, 5, 8] 0 (fun _ s5 _ s15 wr => s15 = .int .i64 0 ∧ s5 = .int .i64 0 ∧ wr = w)
  case atStart => exact ⟨rfl, rfl, rfl⟩
  case round =>
    obtain ⟨rfl, rfl, rfl⟩ := hrel
    go_wp2_with fail
    go_ret
    exact ⟨rfl, Below.refl _ _⟩
/-- count, at a side whose levels are not too many. -/
theorem count_any (v : Value) (ls : List L) (w : World) (h : LS w v ls) (h60 : ∀ l ∈ ls, l.rests.length ≤ 60) (h10 : ls.length ≤ 10000) :
    Calls Try.prog 78 #[v] w fun e w' => e = .returned (.int .i64 (cnt ls)) ∧ Below w.heap.size w w' := by
  rcases h with ⟨rfl, rfl⟩ | ⟨b, o, c, rfl, h2, h3, h4, h5⟩
  · exact count_nil w
  · exact count_some b o c ls w h4 h2 h5 h60 h10
end Go.Proofs.Ytnjpjieedgmffaa.sid
namespace Go.Proofs.Ytnjpjieedgmffaa.sid
open Go.ChangeShapes Go.WideShapes Go.ChangeAt Go.RowKit Go.Deep Go.Proofs.Ytnjpjieedgmffaa.que

theorem cellsL : Try.prog.cellsOf 31 = 2 := by kernel_rfl
theorem cellsS : Try.prog.cellsOf 29 = 1 := by kernel_rfl
theorem list2 {α : Type} {l : List α} (h : l.length = 2) : ∃ c0 c1, l = [c0, c1] := by
  match l, h with
  | [c0, c1], _ => exact ⟨c0, c1, rfl⟩
/-- An address at which a cell is read is one of a block. -/
theorem addr_plain {w : World} {a : Addr} {v : Value} (h : w.cell? a = some v) : a.spot = none ∧ a.block < w.heap.size := by
  refine ⟨?_, World.block_lt_of_cell? w a h⟩
  obtain ⟨b, o, s⟩ := a
  cases s with
  | none => rfl
  | some s =>
    exfalso
    simp only [World.cell?] at h
    split at h
    · simp at h
    · cases h

section
variable {H : Type} {enc : TypeId × Value → H} {w : World} {base : Nat} {sp : Nat → Bool} {held : Bool}

set_option maxRecDepth 100000 in
/-- Rests within a level. -/
theorem open_rests_in {n : Nat} {v : Value} {x : DataW H × List MemPlace} (h : DataW.trod enc Try.prog w base sp held n 29 [v] = some x) : ∃ zs : List R, SLe w v zs := by
  rcases open_slice Try.underlying29 h with ⟨hcs, _⟩ | ⟨a, len, cap, m, n, D, Pl, hcs, _, hl, hcap, hmm, _, hx⟩
  · simp at hcs
    exact ⟨[], .inl (.inl ⟨hcs, rfl⟩)⟩
  simp at hcs
  subst hcs
  by_cases hz : len = 0
  · subst hz
    exact ⟨[], .inr ⟨rfl, _, _, rfl⟩⟩
  have hlm : len ≤ m := by rw [hmm]; split <;> omega
  obtain ⟨hspot, hb⟩ : a.spot = none ∧ a.block < w.heap.size := by
    obtain ⟨cs', h1, h2⟩ := hx 0 (by omega)
    rw [cellsR] at h1
    obtain ⟨_, hlen, hcell⟩ := World.cells?_some h1
    have := hcell 0 (by omega)
    rw [List.getElem?_eq_getElem (by omega)] at this
    rw [Nat.zero_mul, show (a.add 0).add 0 = a from rfl] at this
    exact addr_plain this
  obtain ⟨b, o, s⟩ := a
  simp only at hspot hb
  subst hspot
  obtain ⟨f, hf2⟩ := choose_lt (α := R) (n := len) (p := fun i r => ∀ k v, (rV r)[k]? = some v → w.cell? ⟨b, o + i * 5 + k, none⟩ = some v) (fun i hi => by
    obtain ⟨cs', h1, h2⟩ := hx i (by omega)
    rw [cellsR] at h1
    obtain ⟨_, hlen, hcell⟩ := World.cells?_some h1
    obtain ⟨r, rfl⟩ := open_rest_cells h2 hlen
    refine ⟨r, fun k v hk => ?_⟩
    have hk5 : k < 5 := (List.getElem?_eq_some_iff.1 hk).1
    have := hcell k hk5
    rw [hk, Addr.add_lit, Addr.add_lit] at this
    exact this)
  refine ⟨(List.range len).map f, .inl (.inr ⟨b, o, cap, by simp, by simpa using hl, by simpa [maxLen] using hcap, hb, ?_⟩)⟩
  intro j hj k v hk
  have hj' : j < len := by simpa using hj
  rw [getE _ _ hj] at hk
  simp only [List.getElem_map, List.getElem_range] at hk
  exact hf2 j hj' k v hk

set_option maxRecDepth 100000 in
theorem open_level_cells {n : Nat} {cs : List Value} {x : DataW H × List MemPlace} (h : DataW.trod enc Try.prog w base sp held n 31 cs = some x) (hl : cs.length = 2) :
    ∃ (l : L) (v : Value), cs = [.int .i64 l.price, v] ∧ SLe w v l.rests := by
  obtain ⟨c0, c1, rfl⟩ := list2 hl
  obtain ⟨xs, n, _, hx, _, hlen, hF⟩ := DataW.trod_struct Try.underlying31 h
  obtain ⟨y0, y1, rfl⟩ := list2 hlen
  have h0 : DataW.trod enc Try.prog w base sp held n 3 (([c0, c1].drop 0).take (Try.prog.cellsOf 3)) = some y0 := hF 0 _ rfl
  rw [cellsI] at h0
  obtain ⟨a0, e0, _, _⟩ := DataW.trod_int Try.underlying3 h0
  have h1 : DataW.trod enc Try.prog w base sp held n 29 (([c0, c1].drop 1).take (Try.prog.cellsOf 29)) = some y1 := hF 1 _ rfl
  rw [cellsS] at h1
  have h1' : DataW.trod enc Try.prog w base sp held n 29 [c1] = some y1 := h1
  obtain ⟨zs, hzs⟩ := open_rests_in h1'
  simp at e0
  subst e0
  exact ⟨⟨a0, zs⟩, c1, rfl, hzs⟩

set_option maxRecDepth 100000 in
/-- A side that comes in. -/
theorem open_levels_cell {n : Nat} {v : Value} {x : DataW H × List MemPlace} (hv : v = .slice none 0 0 ∨ ∃ b o len cap, v = .slice (some ⟨b, o, none⟩) len cap ∧ len ≤ cap ∧ cap ≤ 9223372036854775807 ∧ b < w.heap.size) (hf : DataW.trod enc Try.prog w base sp held n 22 v.cells.toList = some x) :
    ∃ ls : List L, LS w v ls := by
  rcases hv with rfl | ⟨b, o, len, cap, rfl, hl, hm, hb⟩
  · exact ⟨[], .inl ⟨rfl, rfl⟩⟩
  rcases open_slice Try.underlying22 hf with ⟨hcs, _⟩ | ⟨a, len', cap', m, n, D, Pl, hcs, _, hl', _, hmm, _, hx⟩
  · simp [Value.cells] at hcs
  simp [Value.cells] at hcs
  obtain ⟨rfl, rfl, rfl⟩ := hcs
  have hlm : len ≤ m := by rw [hmm]; split <;> omega
  obtain ⟨f, hf2⟩ := choose_lt (α := L) (n := len) (p := fun i l => w.cell? ⟨b, o + i * 2, none⟩ = some (.int .i64 l.price) ∧ ∃ v, w.cell? ⟨b, o + i * 2 + 1, none⟩ = some v ∧ SLe w v l.rests) (fun i hi => by
    obtain ⟨cs', h1, h2⟩ := hx i (by omega)
    rw [cellsL] at h1
    obtain ⟨_, hlen, hcell⟩ := World.cells?_some h1
    obtain ⟨l, v, rfl, hv⟩ := open_level_cells h2 hlen
    have g0 := hcell 0 (by omega)
    have g1 := hcell 1 (by omega)
    rw [Addr.add_lit, Addr.add_lit] at g0 g1
    exact ⟨l, by simpa using g0, v, by simpa using g1, hv⟩)
  refine ⟨(List.range len).map f, .inr ⟨b, o, cap, by simp, by simpa using hl, hm, hb, ?_⟩⟩
  intro j hj
  have hj' : j < len := by simpa using hj
  rw [getE _ _ hj]
  simp only [List.getElem_map, List.getElem_range]
  exact hf2 j hj'
set_option maxRecDepth 100000 in
theorem open_levels {r : Reach} {b0 : Nat} {v : Value} {d : DataW H} {ps : List MemPlace} (hv : Value.okWide Try.prog w r b0 22 v) (h : DataW.Trod enc Try.prog w base sp held 22 v d ps) : ∃ ls : List L, LS w v ls := by
  obtain ⟨fuel, hf⟩ := h
  exact open_levels_cell (okWide_slice_lies Try.underlying22 hv) hf
end
end Go.Proofs.Ytnjpjieedgmffaa.sid
namespace Go.Proofs.Ytnjpjieedgmffaa.bok
open Go.ChangeShapes Go.WideShapes Go.ChangeAt Go.RowKit Go.Deep Go.Proofs.Ytnjpjieedgmffaa.que Go.Proofs.Ytnjpjieedgmffaa.sid

theorem cellsB : Try.prog.cellsOf 24 = 2 := by kernel_rfl
theorem cellsSL : Try.prog.cellsOf 22 = 1 := by kernel_rfl
theorem typesB : Try.prog.cellTypes Try.prog.depth 24 = some [22, 22] := by kernel_rfl
section
variable {H : Type} {enc : TypeId × Value → H} {w : World} {base : Nat} {sp : Nat → Bool} {held : Bool}

set_option maxRecDepth 100000 in
theorem okWide_lev {r : Reach} {b0 : Nat} {v : Value} (h : Cell.okWide Try.prog w r b0 22 v) : Value.okWide Try.prog w r b0 22 v := by
  simp only [Value.okWide, Try.underlying22]
  exact h
theorem slice_cells {v : Value} (h : v = .slice none 0 0 ∨ ∃ b o len cap, v = .slice (some ⟨b, o, none⟩) len cap ∧ len ≤ cap ∧ cap ≤ 9223372036854775807 ∧ b < w.heap.size) : v.cells.toList = [v] ∧ ∃ q n c, v = .slice q n c := by
  rcases h with rfl | ⟨b, o, len, cap, rfl, -, -, -⟩
  · exact ⟨rfl, _, _, _, rfl⟩
  · exact ⟨rfl, _, _, _, rfl⟩
set_option maxRecDepth 100000 in
/-- A book that comes in. -/
theorem open_book {r : Reach} {b0 : Nat} {v : Value} {d : DataW H} {ps : List MemPlace} (hv : Value.okWide Try.prog w r b0 24 v) (h : DataW.Trod enc Try.prog w base sp held 24 v d ps) :
    ∃ q1 q2 n1 n2 c1 c2 bs ss, v = .agg #[.slice q1 n1 c1, .slice q2 n2 c2] ∧ LS w (.slice q1 n1 c1) bs ∧ LS w (.slice q2 n2 c2) ss := by
  simp only [Value.okWide, Try.underlying24] at hv
  obtain ⟨cs, rfl, hsz, ts, hts, -, hrow⟩ := hv
  rw [typesB] at hts
  have hts' := (Option.some.inj hts).symm
  subst hts'
  obtain ⟨c0, c1, hcs⟩ := list2 (l := cs.toList) (by rw [Array.length_toList]; exact hsz.trans cellsB)
  have hcs2 : cs = #[c0, c1] := by rw [← Array.toArray_toList (xs := cs), hcs]
  subst hcs2
  have k0 : Cell.okWide Try.prog w r b0 22 c0 := by
    obtain ⟨u, hu, hc⟩ := hrow 0 c0 rfl
    have : u = 22 := by simpa using hu.symm
    rw [this] at hc; exact hc
  have k1 : Cell.okWide Try.prog w r b0 22 c1 := by
    obtain ⟨u, hu, hc⟩ := hrow 1 c1 rfl
    have : u = 22 := by simpa using hu.symm
    rw [this] at hc; exact hc
  have f0 := okWide_slice_lies Try.underlying22 (okWide_lev k0)
  have f1 := okWide_slice_lies Try.underlying22 (okWide_lev k1)
  obtain ⟨fuel, hf⟩ := h
  have hf' : DataW.trod enc Try.prog w base sp held fuel 24 [c0, c1] = some (d, ps) := hf
  obtain ⟨xs, n, _, hx, _, hlen, hF⟩ := DataW.trod_struct Try.underlying24 hf'
  obtain ⟨y0, y1, rfl⟩ := list2 hlen
  have h0 : DataW.trod enc Try.prog w base sp held n 22 (([c0, c1].drop 0).take (Try.prog.cellsOf 22)) = some y0 := hF 0 _ rfl
  have h1 : DataW.trod enc Try.prog w base sp held n 22 (([c0, c1].drop 1).take (Try.prog.cellsOf 22)) = some y1 := hF 1 _ rfl
  rw [cellsSL] at h0 h1
  have h0' : DataW.trod enc Try.prog w base sp held n 22 [c0] = some y0 := h0
  have h1' : DataW.trod enc Try.prog w base sp held n 22 [c1] = some y1 := h1
  obtain ⟨e0, q1, n1, d1, hc0⟩ := slice_cells f0
  obtain ⟨e1, q2, n2, d2, hc1⟩ := slice_cells f1
  obtain ⟨bs, hbs⟩ := open_levels_cell f0 (by rw [e0]; exact h0')
  obtain ⟨ss, hss⟩ := open_levels_cell f1 (by rw [e1]; exact h1')
  subst hc0
  subst hc1
  exact ⟨q1, q2, n1, n2, d1, d2, bs, ss, rfl, hbs, hss⟩
end
end Go.Proofs.Ytnjpjieedgmffaa.bok
