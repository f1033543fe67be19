/- Contracts over this seat's translation: span.Check. Plain facts, no program: a queue of rests, what is wrong with one, and what is taken of it. -/
import Derived.Test.YtmgodofnhjmbfaaGreatDoorSpan
import Derived.Test.YtmgodofnhjmbfaaGreatDoorProg
namespace Go.Proofs.YtmgodofnhjmbfaaGreatDoor.spn
open Go.RowKit

/-- The error of a number: nil of 0, else that Errno. -/
def errV (k : Int) : Value := if k = 0 then .nilIface else .iface 60 (.int .i64 k)
theorem errV_zero : errV 0 = .nilIface := rfl
theorem errV_of {k : Int} (h : ¬ k = 0) : errV k = .iface 60 (.int .i64 k) := if_neg h
def rangeE (r : Bool) : Int := if r = true then 1 else 0

theorem span_pred (w : World) : PredBelow Tryz.prog 89 #[] (fun x => .agg (spanV x).toArray) spanB w := by
  intro W x hb
  obtain ⟨n, lo, hi⟩ := x
  show Calls Tryz.prog 89 #[.agg #[.int .i64 n, .int .i64 lo, .int .i64 hi]] W _
  by_cases h : n < lo
  · go_enter Tryz.func89, Tryz.ntmps89
    go_wp2
    go_ret
    exact ⟨by simp [spanB, h], hb.alloc hb.size _⟩
  · go_enter Tryz.func89, Tryz.ntmps89
    go_wp2
    go_ret
    have e1 : spanB (n, lo, hi) = decide (hi < n) := by
      unfold spanB
      rw [show decide (n < lo) = false from by simp; omega]
      rfl
    exact ⟨by rw [e1]; rfl, hb.alloc hb.size _⟩

theorem scheck_is (r : Bool) (b c : Nat) (zs : List (Int × Int × Int)) (w : World) (hb : b < w.heap.size) (hn : zs.length ≤ 9)
    (hc : ∀ j, j < zs.length → ∀ i v, (spanV zs[j]!)[i]? = some v → w.cell? ⟨b, 0 + j * 3 + i, none⟩ = some v) (hr : zs.any spanB = r) :
    Calls Tryz.prog 67 #[.slice (some ⟨b, 0, none⟩) zs.length c] w fun e w' => e = .returned (errV (rangeE r)) ∧ Below w.heap.size w w' := by
  have eg : ∀ args w, (callFunc 89 args).run Tryz.prog w = .ok (.enter 89 args) w := enters_of Tryz.func89 (by kernel_rfl) rfl
  have hcon := AnyQ.slices_ContainsFunc Tryz.lh8 3 Tryz.isAgg124 Tryz.sizeOf124 spanV (fun x => rfl) spanB 89 #[] eg b 0 zs.length c zs w
    (span_pred w) (Nat.le_refl _) (by omega) hb hc
  change Calls Tryz.prog 88 _ _ _ at hcon
  rw [List.take_length, hr] at hcon
  clear hc hr
  generalize zs.length = n at *
  cases r
  · go_enter Tryz.func67, Tryz.ntmps67
    go_wp2_with (go_at_call 88; refine hcon.mono ?_; rintro e w' ⟨rfl, hb'⟩)
    go_ret
    exact ⟨rfl, hb'⟩
  · go_enter Tryz.func67, Tryz.ntmps67
    go_wp2_with (go_at_call 88; refine hcon.mono ?_; rintro e w' ⟨rfl, hb'⟩)
    go_ret
    exact ⟨rfl, hb'⟩

theorem bcell {W w1 : World} (hb : Below W.heap.size W w1) : (∀ b o, b < W.heap.size → w1.cell? ⟨b, o, none⟩ = W.cell? ⟨b, o, none⟩) ∧ (∀ b o, b < W.heap.size → w1.frozen? ⟨b, o, none⟩ = W.frozen? ⟨b, o, none⟩) :=
  ⟨fun b o h => hb.cell (p := ⟨b, o, none⟩) h, fun b o h => hb.frozen (p := ⟨b, o, none⟩) h⟩

theorem scheck1 (r : Bool) (a1 a2 a3 : Int) (n : Nat) (V : World) (hn : V.heap.size = n)
    (hr : [(a1, a2, a3)].any spanB = r) :
    Calls Tryz.prog 67 #[.slice (some ⟨n, 0, none⟩) 1 1] (V.alloc (.cells #[.int .i64 a1, .int .i64 a2, .int .i64 a3] 124))
      fun e w' => e = .returned (errV (rangeE r)) ∧ Below V.heap.size V w' := by
  refine (scheck_is r n 1 [(a1, a2, a3)] _ (by simp [← hn]) (by simp) ?_ hr).mono ?_
  · intro j hj i v hv
    have hj4 : j < 1 := hj
    rw [World.cell?_alloc_at _ _ _ _ hn.symm]
    rcases j with _ | j
    · rcases i with _ | _ | _ | i <;> simp_all [spanV]
    · omega
  · rintro e w' ⟨rfl, hb⟩
    exact ⟨rfl, ((Below.refl _ V).alloc (Nat.le_refl _) _).trans (hb.mono (by simp))⟩

theorem scheck2 (r : Bool) (a1 a2 a3 b1 b2 b3 : Int) (n : Nat) (V : World) (hn : V.heap.size = n)
    (hr : [(a1, a2, a3), (b1, b2, b3)].any spanB = r) :
    Calls Tryz.prog 67 #[.slice (some ⟨n, 0, none⟩) 2 2] (V.alloc (.cells #[.int .i64 a1, .int .i64 a2, .int .i64 a3, .int .i64 b1, .int .i64 b2, .int .i64 b3] 124))
      fun e w' => e = .returned (errV (rangeE r)) ∧ Below V.heap.size V w' := by
  refine (scheck_is r n 2 [(a1, a2, a3), (b1, b2, b3)] _ (by simp [← hn]) (by simp) ?_ hr).mono ?_
  · intro j hj i v hv
    have hj4 : j < 2 := hj
    rw [World.cell?_alloc_at _ _ _ _ hn.symm]
    rcases j with _ | _ | j
    · rcases i with _ | _ | _ | i <;> simp_all [spanV]
    · rcases i with _ | _ | _ | i <;> simp_all [spanV]
    · omega
  · rintro e w' ⟨rfl, hb⟩
    exact ⟨rfl, ((Below.refl _ V).alloc (Nat.le_refl _) _).trans (hb.mono (by simp))⟩

theorem scheck3 (r : Bool) (a1 a2 a3 b1 b2 b3 c1 c2 c3 : Int) (n : Nat) (V : World) (hn : V.heap.size = n)
    (hr : [(a1, a2, a3), (b1, b2, b3), (c1, c2, c3)].any spanB = r) :
    Calls Tryz.prog 67 #[.slice (some ⟨n, 0, none⟩) 3 3] (V.alloc (.cells #[.int .i64 a1, .int .i64 a2, .int .i64 a3, .int .i64 b1, .int .i64 b2, .int .i64 b3, .int .i64 c1, .int .i64 c2, .int .i64 c3] 124))
      fun e w' => e = .returned (errV (rangeE r)) ∧ Below V.heap.size V w' := by
  refine (scheck_is r n 3 [(a1, a2, a3), (b1, b2, b3), (c1, c2, c3)] _ (by simp [← hn]) (by simp) ?_ hr).mono ?_
  · intro j hj i v hv
    have hj4 : j < 3 := hj
    rw [World.cell?_alloc_at _ _ _ _ hn.symm]
    rcases j with _ | _ | _ | j
    · rcases i with _ | _ | _ | i <;> simp_all [spanV]
    · rcases i with _ | _ | _ | i <;> simp_all [spanV]
    · rcases i with _ | _ | _ | i <;> simp_all [spanV]
    · omega
  · rintro e w' ⟨rfl, hb⟩
    exact ⟨rfl, ((Below.refl _ V).alloc (Nat.le_refl _) _).trans (hb.mono (by simp))⟩

theorem scheck4 (r : Bool) (a1 a2 a3 b1 b2 b3 c1 c2 c3 d1 d2 d3 : Int) (n : Nat) (V : World) (hn : V.heap.size = n)
    (hr : [(a1, a2, a3), (b1, b2, b3), (c1, c2, c3), (d1, d2, d3)].any spanB = r) :
    Calls Tryz.prog 67 #[.slice (some ⟨n, 0, none⟩) 4 4] (V.alloc (.cells #[.int .i64 a1, .int .i64 a2, .int .i64 a3, .int .i64 b1, .int .i64 b2, .int .i64 b3, .int .i64 c1, .int .i64 c2, .int .i64 c3, .int .i64 d1, .int .i64 d2, .int .i64 d3] 124))
      fun e w' => e = .returned (errV (rangeE r)) ∧ Below V.heap.size V w' := by
  refine (scheck_is r n 4 [(a1, a2, a3), (b1, b2, b3), (c1, c2, c3), (d1, d2, d3)] _ (by simp [← hn]) (by simp) ?_ hr).mono ?_
  · intro j hj i v hv
    have hj4 : j < 4 := hj
    rw [World.cell?_alloc_at _ _ _ _ hn.symm]
    rcases j with _ | _ | _ | _ | j
    · rcases i with _ | _ | _ | i <;> simp_all [spanV]
    · rcases i with _ | _ | _ | i <;> simp_all [spanV]
    · rcases i with _ | _ | _ | i <;> simp_all [spanV]
    · rcases i with _ | _ | _ | i <;> simp_all [spanV]
    · omega
  · rintro e w' ⟨rfl, hb⟩
    exact ⟨rfl, ((Below.refl _ V).alloc (Nat.le_refl _) _).trans (hb.mono (by simp))⟩

theorem scheck5 (r : Bool) (a1 a2 a3 b1 b2 b3 c1 c2 c3 d1 d2 d3 e1 e2 e3 : Int) (n : Nat) (V : World) (hn : V.heap.size = n)
    (hr : [(a1, a2, a3), (b1, b2, b3), (c1, c2, c3), (d1, d2, d3), (e1, e2, e3)].any spanB = r) :
    Calls Tryz.prog 67 #[.slice (some ⟨n, 0, none⟩) 5 5] (V.alloc (.cells #[.int .i64 a1, .int .i64 a2, .int .i64 a3, .int .i64 b1, .int .i64 b2, .int .i64 b3, .int .i64 c1, .int .i64 c2, .int .i64 c3, .int .i64 d1, .int .i64 d2, .int .i64 d3, .int .i64 e1, .int .i64 e2, .int .i64 e3] 124))
      fun e w' => e = .returned (errV (rangeE r)) ∧ Below V.heap.size V w' := by
  refine (scheck_is r n 5 [(a1, a2, a3), (b1, b2, b3), (c1, c2, c3), (d1, d2, d3), (e1, e2, e3)] _ (by simp [← hn]) (by simp) ?_ hr).mono ?_
  · intro j hj i v hv
    have hj4 : j < 5 := hj
    rw [World.cell?_alloc_at _ _ _ _ hn.symm]
    rcases j with _ | _ | _ | _ | _ | j
    · rcases i with _ | _ | _ | i <;> simp_all [spanV]
    · rcases i with _ | _ | _ | i <;> simp_all [spanV]
    · rcases i with _ | _ | _ | i <;> simp_all [spanV]
    · rcases i with _ | _ | _ | i <;> simp_all [spanV]
    · rcases i with _ | _ | _ | i <;> simp_all [spanV]
    · omega
  · rintro e w' ⟨rfl, hb⟩
    exact ⟨rfl, ((Below.refl _ V).alloc (Nat.le_refl _) _).trans (hb.mono (by simp))⟩

end Go.Proofs.YtmgodofnhjmbfaaGreatDoor.spn
namespace Go.Proofs.YtmgodofnhjmbfaaGreatDoor.que

/-- A rest. -/
structure R where
  id : Int
  who : Int
  qty : Int
  hid : Int
  shw : Int
deriving DecidableEq, Inhabited
/-- A fill. -/
structure F where
  id : Int
  who : Int
  qty : Int
deriving DecidableEq, Inhabited

def inB (n lo hi : Int) : Bool := decide (lo ≤ n) && decide (n ≤ hi)
def rangeB (r : R) : Bool := inB r.id 1 9999 && inB r.who 1 9 && inB r.qty 1 10000 && inB r.hid 0 10000 && inB r.shw 0 10000
def shapeB (r : R) : Bool := (!(decide (r.shw = 0) && !decide (r.hid = 0))) && (!((!decide (r.shw = 0)) && decide (r.shw < r.qty)))
def rchk (r : R) : Int := if rangeB r = true then (if shapeB r = true then 0 else 3) else 1

/-- Where an id stands, -1 if nowhere. -/
def idx (id : Int) : List R → Int
  | [] => -1
  | r :: t => if r.id = id then 0 else if idx id t < 0 then -1 else idx id t + 1
def has (id : Int) (zs : List R) : Bool := zs.any (fun r => decide (r.id = id))

/-- What is wrong with one behind others. -/
def bchk (ahead : List R) (r : R) : Int := if rchk r = 0 then (if has r.id ahead = true then 7 else 0) else rchk r
def qgo (ahead : List R) : List R → Int
  | [] => 0
  | r :: t => if bchk ahead r = 0 then qgo (ahead ++ [r]) t else bchk ahead r
def qchk (zs : List R) : Int := if 60 < zs.length then 4 else qgo [] zs

def tot : List R → Int
  | [] => 0
  | r :: t => r.qty + r.hid + tot t

/-- What is left behind so much is taken of the first one. -/
def tk1 (k : Int) (r : R) (t : List R) : List R :=
  if k < r.qty then { r with qty := r.qty - k } :: t
  else if r.hid = 0 then t
  else t ++ [{ r with qty := min r.shw r.hid, hid := r.hid - min r.shw r.hid }]
def tk : Nat → Int → List R → List F × List R
  | 0, _, zs => ([], zs)
  | _ + 1, _, [] => ([], [])
  | f + 1, n, r :: t => if n ≤ 0 then ([], r :: t) else
      (⟨r.id, r.who, min n r.qty⟩ :: (tk f (n - min n r.qty) (tk1 (min n r.qty) r t)).1, (tk f (n - min n r.qty) (tk1 (min n r.qty) r t)).2)
def take (n : Int) (zs : List R) : List F × List R := tk n.toNat n zs

theorem idx_ge (id : Int) (zs : List R) : -1 ≤ idx id zs := by
  induction zs with
  | nil => simp [idx]
  | cons r t ih => unfold idx; split; omega; split <;> omega
theorem idx_lt (id : Int) (zs : List R) : idx id zs < zs.length := by
  induction zs with
  | nil => simp [idx]
  | cons r t ih => unfold idx; rw [List.length_cons]; split; omega; split <;> omega
theorem idx_cons (id : Int) (r : R) (t : List R) : idx id (r :: t) = if r.id = id then 0 else if idx id t < 0 then -1 else idx id t + 1 := rfl
theorem has_idx (id : Int) (zs : List R) : has id zs = decide (0 ≤ idx id zs) := by
  induction zs with
  | nil => rfl
  | cons r t ih =>
    have e : has id (r :: t) = (decide (r.id = id) || has id t) := rfl
    have := idx_ge id t
    rw [e, ih, idx_cons]
    by_cases h : r.id = id
    · rw [if_pos h, decide_eq_true h]; rfl
    · rw [if_neg h, decide_eq_false h, Bool.false_or]
      by_cases h2 : idx id t < 0
      · rw [if_pos h2, decide_eq_false (by omega)]; rfl
      · rw [if_neg h2, decide_eq_true (show 0 ≤ idx id t by omega), decide_eq_true (show 0 ≤ idx id t + 1 by omega)]

/-! ### What Check gives -/
theorem inB_iff (n lo hi : Int) : inB n lo hi = true ↔ lo ≤ n ∧ n ≤ hi := by simp [inB]
theorem rchk_zero {r : R} (h : rchk r = 0) : (1 ≤ r.qty ∧ r.qty ≤ 10000) ∧ (0 ≤ r.hid ∧ r.hid ≤ 10000) ∧ (0 ≤ r.shw ∧ r.shw ≤ 10000) ∧ (r.shw = 0 → r.hid = 0) ∧ (r.shw ≠ 0 → r.qty ≤ r.shw) ∧ (1 ≤ r.id ∧ r.id ≤ 9999) ∧ (1 ≤ r.who ∧ r.who ≤ 9) := by
  unfold rchk at h
  by_cases h1 : rangeB r = true
  · rw [if_pos h1] at h
    by_cases h2 : shapeB r = true
    · simp only [rangeB, Bool.and_eq_true, inB_iff] at h1
      simp only [shapeB, Bool.and_eq_true, Bool.not_eq_true', Bool.and_eq_false_iff, decide_eq_false_iff_not, Bool.not_eq_false', decide_eq_true_eq] at h2
      obtain ⟨⟨⟨⟨h3, h4⟩, h5⟩, h6⟩, h7⟩ := h1
      obtain ⟨h8, h9⟩ := h2
      refine ⟨h5, h6, h7, ?_, ?_, h3, h4⟩
      · intro e; rcases h8 with h8 | h8; exact absurd e h8; exact h8
      · intro e; rcases h9 with h9 | h9; exact absurd h9 e; omega
    · rw [if_neg h2] at h; cases h
  · rw [if_neg h1] at h; cases h
theorem rchk_of {r : R} (h : (1 ≤ r.qty ∧ r.qty ≤ 10000) ∧ (0 ≤ r.hid ∧ r.hid ≤ 10000) ∧ (0 ≤ r.shw ∧ r.shw ≤ 10000) ∧ (r.shw = 0 → r.hid = 0) ∧ (r.shw ≠ 0 → r.qty ≤ r.shw) ∧ (1 ≤ r.id ∧ r.id ≤ 9999) ∧ (1 ≤ r.who ∧ r.who ≤ 9)) : rchk r = 0 := by
  obtain ⟨h5, h6, h7, ha, hb, h3, h4⟩ := h
  have h1 : rangeB r = true := by
    simp only [rangeB, Bool.and_eq_true, inB_iff]
    exact ⟨⟨⟨⟨h3, h4⟩, h5⟩, h6⟩, h7⟩
  have h2 : shapeB r = true := by
    simp only [shapeB, Bool.and_eq_true, Bool.not_eq_true', Bool.and_eq_false_iff, decide_eq_false_iff_not, Bool.not_eq_false', decide_eq_true_eq]
    constructor
    · by_cases e : r.shw = 0
      · right; exact ha e
      · left; exact e
    · by_cases e : r.shw = 0
      · left; exact e
      · right; have := hb e; omega
  unfold rchk; rw [if_pos h1, if_pos h2]

theorem bchk_zero {ahead : List R} {r : R} : bchk ahead r = 0 ↔ rchk r = 0 ∧ has r.id ahead = false := by
  unfold bchk
  by_cases h : rchk r = 0
  · rw [if_pos h]
    cases h2 : has r.id ahead <;> simp [h]
  · rw [if_neg h]
    constructor
    · intro e; exact absurd e h
    · intro e; exact absurd e.1 h

/-- Good: each is right, and no id is there twice. -/
def Good (zs : List R) : Prop := (∀ r ∈ zs, rchk r = 0) ∧ (zs.map (·.id)).Nodup

theorem has_false (id : Int) (zs : List R) : has id zs = false ↔ id ∉ zs.map (·.id) := by
  unfold has
  rw [List.any_eq_false]
  simp only [decide_eq_true_eq, List.mem_map, not_exists, not_and]
theorem qgo_zero (t ahead : List R) (h : Good ahead) : qgo ahead t = 0 ↔ Good (ahead ++ t) := by
  induction t generalizing ahead with
  | nil => simp [qgo, h]
  | cons r t ih =>
    unfold qgo
    by_cases hb : bchk ahead r = 0
    · rw [if_pos hb]
      obtain ⟨h1, h2⟩ := bchk_zero.1 hb
      rw [has_false] at h2
      have hg : Good (ahead ++ [r]) := by
        refine ⟨?_, ?_⟩
        · intro x hx
          rcases List.mem_append.1 hx with hx | hx
          · exact h.1 x hx
          · rw [List.mem_singleton] at hx; rw [hx]; exact h1
        · rw [List.map_append, List.nodup_append]
          refine ⟨h.2, by simp, ?_⟩
          intro a ha b hb e
          simp at hb
          rw [e, hb] at ha
          exact h2 ha
      rw [ih _ hg, List.append_assoc]
      rfl
    · rw [if_neg hb]
      constructor
      · intro e; exact absurd e hb
      · intro hg
        exfalso
        apply hb
        rw [bchk_zero, has_false]
        refine ⟨hg.1 r (by simp), ?_⟩
        have := hg.2
        rw [List.map_append, List.nodup_append] at this
        intro hm
        exact this.2.2 r.id hm r.id (by simp) rfl
theorem qchk_zero (zs : List R) : qchk zs = 0 ↔ zs.length ≤ 60 ∧ Good zs := by
  unfold qchk
  by_cases h : 60 < zs.length
  · rw [if_pos h]
    constructor
    · intro e; cases e
    · intro e; omega
  · rw [if_neg h, qgo_zero zs [] ⟨by simp, by simp⟩]
    rw [List.nil_append]
    exact ⟨fun e => ⟨by omega, e⟩, fun e => e.2⟩

end Go.Proofs.YtmgodofnhjmbfaaGreatDoor.que
