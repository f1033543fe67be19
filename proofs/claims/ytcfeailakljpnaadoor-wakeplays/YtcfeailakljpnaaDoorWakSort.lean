/- Contracts over this seat's translation: wake.lineUp: slices.SortStableFunc at twenty orders or fewer. -/
import Derived.Test.YtcfeailakljpnaaDoorWakPure
namespace Go.Proofs.YtcfeailakljpnaaDoor.wak
open Go.RowKit Go.Proofs.YtcfeailakljpnaaDoor.ord Go.Sort Go.Lib
open Go.Proofs.YtcfeailakljpnaaDoor.spn (keeps bcell)

theorem hidQ {P : Prop} (h : P) : Hid P := h

set_option maxHeartbeats 1000000 in
theorem line_ne (a1 a2 a3 a4 a5 a6 a7 a8 b1 b2 b3 b4 b5 b6 b7 b8 : Int) (h : ¬ a3 = b3) (W : World) : Calls Tryd.prog 43 #[.agg #[.int .i64 a1, .int .i64 a2, .int .i64 a3, .int .i64 a4, .int .i64 a5, .int .i64 a6, .int .i64 a7, .int .i64 a8], .agg #[.int .i64 b1, .int .i64 b2, .int .i64 b3, .int .i64 b4, .int .i64 b5, .int .i64 b6, .int .i64 b7, .int .i64 b8]] W fun e w' => e = .returned (.int .i64 (cf ⟨a1, a2, a3, a4, a5, a6, a7, a8⟩ ⟨b1, b2, b3, b4, b5, b6, b7, b8⟩)) ∧ ∃ q os', w' = grow (W.drewN q) os' := by
  have hcon := fun W' => AnyG.cmp_Compare_int Tryd.lcmp a3 b3 W'
  change ∀ W', Calls Tryd.prog 44 _ _ _ at hcon
  have he : cf ⟨a1, a2, a3, a4, a5, a6, a7, a8⟩ ⟨b1, b2, b3, b4, b5, b6, b7, b8⟩ = Lib.compareInt a3 b3 := by unfold cf; rw [if_neg h]
  rw [he]
  clear he
  generalize Lib.compareInt a3 b3 = r at hcon ⊢
  have e1 : (a3 != b3) = true := by simp [h]
  go_enter Tryd.func43, Tryd.ntmps43
  go_wp2_with (go_at_call 44; refine (hcon _).mono ?_; rintro e w' ⟨rfl, rfl⟩)
  go_ret
  exact ⟨rfl, 0, _, by rw [alloc_eq_grow, alloc_eq_grow, grow_grow]; rfl⟩

set_option maxHeartbeats 1000000 in
theorem line_buy (a1 a2 a3 a4 a5 a6 a7 a8 b1 b2 b3 b4 b5 b6 b7 b8 : Int) (h : a3 = b3) (h1 : a3 = 1) (W : World) : Calls Tryd.prog 43 #[.agg #[.int .i64 a1, .int .i64 a2, .int .i64 a3, .int .i64 a4, .int .i64 a5, .int .i64 a6, .int .i64 a7, .int .i64 a8], .agg #[.int .i64 b1, .int .i64 b2, .int .i64 b3, .int .i64 b4, .int .i64 b5, .int .i64 b6, .int .i64 b7, .int .i64 b8]] W fun e w' => e = .returned (.int .i64 (cf ⟨a1, a2, a3, a4, a5, a6, a7, a8⟩ ⟨b1, b2, b3, b4, b5, b6, b7, b8⟩)) ∧ ∃ q os', w' = grow (W.drewN q) os' := by
  have hcon := fun W' => AnyG.cmp_Compare_int Tryd.lcmp a8 b8 W'
  change ∀ W', Calls Tryd.prog 44 _ _ _ at hcon
  have he : cf ⟨a1, a2, a3, a4, a5, a6, a7, a8⟩ ⟨b1, b2, b3, b4, b5, b6, b7, b8⟩ = Lib.compareInt a8 b8 := by subst h1; subst h; unfold cf; rw [if_pos rfl, if_pos rfl]
  rw [he]
  clear he
  generalize Lib.compareInt a8 b8 = r at hcon ⊢
  subst h1; subst h
  go_enter Tryd.func43, Tryd.ntmps43
  go_wp2_with (go_at_call 44; refine (hcon _).mono ?_; rintro e w' ⟨rfl, rfl⟩)
  go_ret
  exact ⟨rfl, 0, _, by rw [alloc_eq_grow, alloc_eq_grow, grow_grow]; rfl⟩

set_option maxHeartbeats 1000000 in
theorem line_sell (a1 a2 a3 a4 a5 a6 a7 a8 b1 b2 b3 b4 b5 b6 b7 b8 : Int) (h : a3 = b3) (h1 : ¬ a3 = 1) (W : World) : Calls Tryd.prog 43 #[.agg #[.int .i64 a1, .int .i64 a2, .int .i64 a3, .int .i64 a4, .int .i64 a5, .int .i64 a6, .int .i64 a7, .int .i64 a8], .agg #[.int .i64 b1, .int .i64 b2, .int .i64 b3, .int .i64 b4, .int .i64 b5, .int .i64 b6, .int .i64 b7, .int .i64 b8]] W fun e w' => e = .returned (.int .i64 (cf ⟨a1, a2, a3, a4, a5, a6, a7, a8⟩ ⟨b1, b2, b3, b4, b5, b6, b7, b8⟩)) ∧ ∃ q os', w' = grow (W.drewN q) os' := by
  have hcon := fun W' => AnyG.cmp_Compare_int Tryd.lcmp b8 a8 W'
  change ∀ W', Calls Tryd.prog 44 _ _ _ at hcon
  have he : cf ⟨a1, a2, a3, a4, a5, a6, a7, a8⟩ ⟨b1, b2, b3, b4, b5, b6, b7, b8⟩ = Lib.compareInt b8 a8 := by subst h; unfold cf; rw [if_pos rfl, if_neg h1]
  rw [he]
  clear he
  generalize Lib.compareInt b8 a8 = r at hcon ⊢
  subst h; have e1 : (a3 == 1) = false := by simp [h1]
  go_enter Tryd.func43, Tryd.ntmps43
  go_wp2_with (go_at_call 44; refine (hcon _).mono ?_; rintro e w' ⟨rfl, rfl⟩)
  go_ret
  exact ⟨rfl, 0, _, by rw [alloc_eq_grow, alloc_eq_grow, grow_grow]; rfl⟩

theorem line_any (x y : O) (W : World) : Calls Tryd.prog 43 #[.agg (oL x).toArray, .agg (oL y).toArray] W fun e w' => e = .returned (.int .i64 (cf x y)) ∧ ∃ q os', w' = grow (W.drewN q) os' := by
  obtain ⟨a1, a2, a3, a4, a5, a6, a7, a8⟩ := x
  obtain ⟨b1, b2, b3, b4, b5, b6, b7, b8⟩ := y
  by_cases h : a3 = b3
  · by_cases h1 : a3 = 1
    · exact line_buy a1 a2 a3 a4 a5 a6 a7 a8 b1 b2 b3 b4 b5 b6 b7 b8 h h1 W
    · exact line_sell a1 a2 a3 a4 a5 a6 a7 a8 b1 b2 b3 b4 b5 b6 b7 b8 h h1 W
  · exact line_ne a1 a2 a3 a4 a5 a6 a7 a8 b1 b2 b3 b4 b5 b6 b7 b8 h W
theorem line_lays (blk off size : Nat) (w : World) : CmpLays Tryd.prog 43 #[] oL 8 cf blk off size w := fun _ _ _ _ x y => line_any x y _

/-- A row of orders, sorted in a part of it. -/
def ins (a b : Nat) (zs : List O) : List O := (insertionSort (ltOf cf) zs.toArray a b).toList
theorem ins_len (a b : Nat) (zs : List O) (h : a ≤ b) (hb : b ≤ zs.length) : (ins a b zs).length = zs.length := by
  have := ((insertionSort_holds (lt := ltOf cf)) cf_swo zs.toArray a b h (by simpa using hb)).1.1
  unfold ins
  simpa using this
theorem flatK_flat (zs : List O) (t : Nat) (h : t < zs.length * 8) : (flat zs)[t]? = some (flatK oL 8 zs.toArray)[t]! := by
  rw [get_flatK oL 8 zs.toArray t (by simpa using h)]
  have e : t = t / 8 * 8 + t % 8 := by omega
  have h8 : t % 8 < 8 := by omega
  conv => lhs; rw [e]
  rw [flat_get zs (t / 8) (by omega) (t % 8) h8]
  have hl : (oL zs[t / 8]!).length = 8 := rfl
  rw [List.getElem?_eq_getElem (by rw [hl]; exact h8)]
  have hs : zs.toArray[t / 8]! = zs[t / 8]! := by simp
  rw [hs]
  congr 1
  exact (getElem!_pos (oL zs[t / 8]!) (t % 8) (by rw [hl]; exact h8)).symm
theorem holds_own {w : World} {base g off cap : Nat} {zs : List O} (h : OwnQ w base (.slice (some ⟨g, off, none⟩) zs.length cap) zs) : HoldsK oL 8 w g off zs.toArray := by
  obtain ⟨h1, h2, -, h4, h5, h6, h7⟩ := own_range h
  intro j hj
  have hj' : j < zs.length * 8 := by simpa using hj
  refine ⟨?_, (h7 j (Nat.lt_of_lt_of_le hj' (Nat.mul_le_mul_right 8 h4))).2⟩
  exact h6 j _ (flatK_flat zs j hj')
theorem own_sorted {w : World} {base g off cap n : Nat} {os : Array Obj} {zs ys : List O} (h : OwnQ w base (.slice (some ⟨g, off, none⟩) zs.length cap) zs) (hl : ys.length = zs.length) :
    OwnQ (sortWorldK oL 8 w g off n ys.toArray os) base (.slice (some ⟨g, off, none⟩) zs.length cap) ys ∧ w.grownBy (sortWorldK oL 8 w g off n ys.toArray os) (some g) := by
  obtain ⟨h1, h2, ⟨cur, h3, h3'⟩, h4, h5, h6, h7⟩ := own_range h
  have hg : g < w.heap.size := (Array.getElem?_eq_some_iff.1 h3).1
  have hH := holdsK_sortWorldK_c oL 8 w g off zs.toArray ys.toArray n os (holds_own h) hg (by simpa using hl)
  have hb : (sortWorldK oL 8 w g off n ys.toArray os).heap[g]? = some (.cells (putCells id off (flatK oL 8 ys.toArray) cur) 29 (0, 0)) := by
    unfold sortWorldK putRowK
    rw [heap_grow_old _ _ (by simpa [Sort.ahead] using hg)]
    simp [putRow, mapBlock, Sort.ahead, Array.getElem?_modify, h3, onCells]
  refine ⟨?_, rfl, rfl, rfl, by unfold sortWorldK putRowK; simp [Sort.ahead], fun k hk hne => ?_⟩
  · show OwnM _ _ _ _ _ _ _
    rw [hl]
    refine own_of (by rw [flat_len, hl]) h2 hb (by simpa [putCells] using h3') h4 h5 fun j u hu => ?_
    have hj : j < ys.length * 8 := by rw [← flat_len]; exact (List.getElem?_eq_some_iff.1 hu).1
    rw [flatK_flat ys j hj] at hu
    cases hu
    exact (hH j (by simpa using hj)).1
  · unfold sortWorldK putRowK
    rw [heap_grow_old _ _ (by simpa [Sort.ahead] using hk)]
    have : g ≠ k := fun e => hne (by rw [e])
    simp [putRow, mapBlock, Sort.ahead, Array.getElem?_modify, this]

theorem ins_any (w : World) (base g off cap a b : Nat) (zs : List O) (h : OwnQ w base (.slice (some ⟨g, off, none⟩) zs.length cap) zs) (hab : a ≤ b) (hb : b ≤ zs.length) (hz : zs.length ≤ 1000) :
    Calls Tryd.prog 58 #[.slice (some ⟨g, off, none⟩) zs.length cap, .int .i64 a, .int .i64 b, .func (.func 43) #[] #[]] w fun e w' => e = .returned (.tuple #[]) ∧ OwnQ w' base (.slice (some ⟨g, off, none⟩) zs.length cap) (ins a b zs) ∧ w.grownBy w' (some g) := by
  have eg : ∀ args w, (callFunc 43 args).run Tryd.prog w = .ok (.enter 43 args) w := enters_of Tryd.func43 (by kernel_rfl) rfl
  obtain ⟨-, -, ⟨cur, h3, -⟩, h4, h5, -, -⟩ := own_range h
  have hcon := AnyQ.insertionSortCmpFunc Tryd.lins 8 Tryd.isAgg29 Tryd.sizeOf29 oL (fun _ => rfl) (fun x v hv => by
      simp only [oL, List.mem_cons, List.not_mem_nil, or_false] at hv
      rcases hv with rfl | rfl | rfl | rfl | rfl | rfl | rfl | rfl <;> rfl) cf 43 #[] g off cap a b zs.toArray w eg (line_lays g off _ w) (holds_own h) (Array.getElem?_eq_some_iff.1 h3).1 hab (by simpa using hb) (by rw [List.size_toArray]; omega)
  change Calls Tryd.prog 58 _ _ _ at hcon
  rw [List.size_toArray] at hcon
  refine hcon.mono ?_
  rintro e w' ⟨rfl, n, os, rfl⟩
  refine ⟨rfl, ?_⟩
  have := own_sorted (n := n) (os := os) h (ins_len a b zs hab hb)
  unfold ins at this ⊢
  simpa using this
theorem ins_nil (w : World) : Calls Tryd.prog 58 #[.slice none 0 0, .int .i64 0, .int .i64 0, .func (.func 43) #[] #[]] w fun e w' => e = .returned (.tuple #[]) ∧ w' = w := by
  go_enter Tryd.func58, Tryd.ntmps58
  go_wp2
  go_loopg [8] 0 (fun _ s8 wr => s8 = .int .i64 1 ∧ wr = w)
  case atStart => exact ⟨rfl, rfl⟩
  case round =>
    obtain ⟨rfl, rfl⟩ := hrel
    go_wp2
    go_end0
    exact ⟨rfl, rfl⟩

theorem ins_all (zs : List O) : ins 0 zs.length zs = isort (ltOf cf) zs := by unfold ins; rw [sort_list]
theorem ins_none (n : Nat) (zs : List O) : ins n n zs = zs := by
  unfold ins insertionSort insOuter
  rw [if_neg (by omega)]

/-- What is left of a row that is sorted in place. -/
def SrtPost (base : Nat) (v : Value) (zs : List O) (w w' : World) : Prop := OwnQ w' base v (isort (ltOf cf) zs) ∧ w.grownBy w' v.ownBlock

set_option maxHeartbeats 1000000 in
theorem stable_few (n : Nat) (v : Value) (zs : List O) (base : Nat) (w : World) (hn : n < 20) (hI : Calls Tryd.prog 58 #[v, .int .i64 0, .int .i64 n, .func (.func 43) #[] #[]] w fun e w' => e = .returned (.tuple #[]) ∧ SrtPost base v zs w w') :
    Calls Tryd.prog 52 #[v, .int .i64 n, .func (.func 43) #[] #[]] w fun e w' => e = .returned (.tuple #[]) ∧ SrtPost base v zs w w' := by
  have HI := hidQ hI
  have h1 : ¬ (20 : Int) ≤ (n : Int) := by omega
  have h2 : ¬ (20 : Int) < (n : Int) := by omega
  clear hI hn
  go_enter Tryd.func52, Tryd.ntmps52
  go_wp2_with fail
  go_loopg [7, 8] 0 (fun _ s7 s8 wr => s7 = .int .i64 0 ∧ s8 = .int .i64 20 ∧ wr = w)
  case atStart => exact ⟨rfl, rfl, rfl⟩
  case round =>
    obtain ⟨rfl, rfl, rfl⟩ := hrel
    go_wp2_with fail
    refine HI.out.mono ?_
    rintro e w1 ⟨rfl, hp⟩
    have HP := hidQ hp
    clear hp HI
    go_wp2_with fail
    go_loopg [6, 7, 8, 9] 0 (fun _ s6 _ _ _ wr2 => s6 = .int .i64 20 ∧ wr2 = w1)
    case atStart => exact ⟨rfl, rfl⟩
    case round =>
      obtain ⟨rfl, rfl⟩ := hrel
      go_wp2_with fail
      go_end0
      exact ⟨rfl, HP.out⟩

set_option maxHeartbeats 1000000 in
theorem stable_twenty (v : Value) (zs : List O) (base : Nat) (w : World) (hI : Calls Tryd.prog 58 #[v, .int .i64 0, .int .i64 20, .func (.func 43) #[] #[]] w fun e w' => e = .returned (.tuple #[]) ∧ SrtPost base v zs w w')
    (hJ : ∀ w1, SrtPost base v zs w w1 → Calls Tryd.prog 58 #[v, .int .i64 20, .int .i64 20, .func (.func 43) #[] #[]] w1 fun e w' => e = .returned (.tuple #[]) ∧ SrtPost base v zs w w') :
    Calls Tryd.prog 52 #[v, .int .i64 20, .func (.func 43) #[] #[]] w fun e w' => e = .returned (.tuple #[]) ∧ SrtPost base v zs w w' := by
  have HI := hidQ hI
  have HJ := hidQ hJ
  clear hI hJ
  go_enter Tryd.func52, Tryd.ntmps52
  go_wp2_with fail
  go_loopg [7, 8] 1 (fun gg s7 s8 wr => (s7 = .int .i64 0 ∧ s8 = .int .i64 20 ∧ wr = w ∧ 1 ≤ gg) ∨ (s7 = .int .i64 20 ∧ s8 = .int .i64 40 ∧ Aside (SrtPost base v zs w wr)))
  case atStart => exact .inl ⟨rfl, rfl, rfl, Nat.le_refl _⟩
  case round =>
    rcases hrel with ⟨rfl, rfl, rfl, hg⟩ | ⟨rfl, rfl, hp⟩
    · go_wp2_with fail
      refine HI.out.mono ?_
      rintro e w1 ⟨rfl, hp⟩
      have HP := hidQ hp
      clear hp HI
      go_wp2_with fail
      go_roundg 0
      case measure => omega
      case rel => exact .inr ⟨rfl, rfl, HP.out⟩
    · go_wp2_with fail
      refine (HJ.out _ hp.out).mono ?_
      rintro e w1 ⟨rfl, hp⟩
      have HP := hidQ hp
      clear hp HI HJ
      go_wp2_with fail
      go_loopg [6, 7, 8, 9] 0 (fun _ s6 _ _ _ wr2 => s6 = .int .i64 20 ∧ wr2 = w1)
      case atStart => exact ⟨rfl, rfl⟩
      case round =>
        obtain ⟨rfl, rfl⟩ := hrel
        go_wp2_with fail
        go_end0
        exact ⟨rfl, HP.out⟩

theorem stable_any (v : Value) (zs : List O) (base : Nat) (w : World) (h : OwnQ w base v zs) (hl : zs.length ≤ 20) :
    Calls Tryd.prog 52 #[v, .int .i64 zs.length, .func (.func 43) #[] #[]] w fun e w' => e = .returned (.tuple #[]) ∧ SrtPost base v zs w w' := by
  have h0 := h
  rcases h.2 with ⟨hv, hn⟩ | ⟨g, off, cap, cur, hv, -⟩
  · subst hv
    have : zs = [] := List.eq_nil_of_length_eq_zero hn
    subst this
    exact stable_few 0 _ [] base w (by omega) ((ins_nil w).mono fun e w' he => ⟨he.1, by rw [he.2]; exact ⟨h0, rfl, rfl, rfl, Nat.le_refl _, fun _ _ _ => rfl⟩⟩)
  · subst hv
    by_cases h20 : zs.length = 20
    · have hA := ins_any w base g off cap 0 zs.length zs h0 (by omega) (Nat.le_refl _) (by omega)
      rw [ins_all] at hA
      rw [h20] at hA ⊢
      refine stable_twenty _ zs base w hA fun w1 hp => ?_
      have hl2 : (isort (ltOf cf) zs).length = 20 := by rw [isort_len, h20]
      have hq := hp.1
      have hB := ins_any w1 base g off cap 20 20 (isort (ltOf cf) zs) (by rw [hl2]; exact hq) (Nat.le_refl _) (by omega) (by omega)
      rw [hl2, ins_none] at hB
      exact hB.mono fun e w' he => ⟨he.1, he.2.1, gr_trans hp.2 he.2.2⟩
    · have hA := ins_any w base g off cap 0 zs.length zs h0 (by omega) (Nat.le_refl _) (by omega)
      rw [ins_all] at hA
      exact stable_few zs.length _ zs base w (by omega) hA

set_option maxHeartbeats 1000000 in
theorem lineUp_any (q : Option Addr) (n c : Nat) (zs : List O) (base : Nat) (w : World) (hn : n = zs.length) (h : OwnQ w base (.slice q n c) zs) (hl : n ≤ 20) :
    Calls Tryd.prog 27 #[.slice q n c] w fun e w' => e = .returned (.tuple #[]) ∧ SrtPost base (.slice q n c) zs w w' := by
  have HC := hidQ (stable_any _ zs base w h (by omega))
  rw [← hn] at HC
  clear h hn hl
  have HD : Hid (Calls Tryd.prog 42 #[.slice q n c, .func (.func 43) #[] #[]] w fun e w' => e = .returned (.tuple #[]) ∧ SrtPost base (.slice q n c) zs w w') := by
    show Calls _ _ _ _ _
    go_enter Tryd.func42, Tryd.ntmps42
    go_wp2_with fail
    refine HC.out.mono ?_
    rintro e w1 ⟨rfl, hp⟩
    have HP := hidQ hp
    clear hp HC
    go_wp2_with fail
    go_end0
    exact ⟨rfl, HP.out⟩
  go_enter Tryd.func27, Tryd.ntmps27
  go_wp2_with fail
  refine HD.out.mono ?_
  rintro e w1 ⟨rfl, hp⟩
  have HP := hidQ hp
  clear hp HC HD
  go_wp2_with fail
  go_end0
  exact ⟨rfl, HP.out⟩
end Go.Proofs.YtcfeailakljpnaaDoor.wak
