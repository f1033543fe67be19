/- Contracts over this seat's translation: span.Check. -/
import Derived.Test.YtndkabnmffgebaaDoorSpan
namespace Go.Proofs.YtndkabnmffgebaaDoor.spn
open Go.RowKit

/-- The error of a number: nil of 0, else that Errno. -/
def errV (k : Int) : Value := if k = 0 then .nilIface else .iface 49 (.int .i64 k)
theorem errV_zero : errV 0 = .nilIface := rfl
theorem errV_of {k : Int} (h : ¬ k = 0) : errV k = .iface 49 (.int .i64 k) := if_neg h
def rangeE (r : Bool) : Int := if r = true then 1 else 0

theorem span_pred (w : World) : PredBelow Tryd.prog 51 #[] (fun x => .agg (spanV x).toArray) spanB w := by
  intro W x hb
  obtain ⟨n, lo, hi⟩ := x
  show Calls Tryd.prog 51 #[.agg #[.int .i64 n, .int .i64 lo, .int .i64 hi]] W _
  by_cases h : n < lo
  · go_enter Tryd.func51, Tryd.ntmps51
    go_wp2
    go_ret
    exact ⟨by simp [spanB, h], hb.alloc hb.size _⟩
  · go_enter Tryd.func51, Tryd.ntmps51
    go_wp2
    go_ret
    have e1 : spanB (n, lo, hi) = decide (hi < n) := by
      unfold spanB
      rw [show decide (n < lo) = false from by simp; omega]
      rfl
    exact ⟨by rw [e1]; rfl, hb.alloc hb.size _⟩

theorem scheck_is (r : Bool) (b c : Nat) (zs : List (Int × Int × Int)) (w : World) (hb : b < w.heap.size) (hn : zs.length ≤ 9)
    (hc : ∀ j, j < zs.length → ∀ i v, (spanV zs[j]!)[i]? = some v → w.cell? ⟨b, 0 + j * 3 + i, none⟩ = some v) (hr : zs.any spanB = r) :
    Calls Tryd.prog 33 #[.slice (some ⟨b, 0, none⟩) zs.length c] w fun e w' => e = .returned (errV (rangeE r)) ∧ Below w.heap.size w w' := by
  have eg : ∀ args w, (callFunc 51 args).run Tryd.prog w = .ok (.enter 51 args) w := enters_of Tryd.func51 (by kernel_rfl) rfl
  have hcon := AnyQ.slices_ContainsFunc Tryd.lh8 3 Tryd.isAgg77 Tryd.sizeOf77 spanV (fun x => rfl) spanB 51 #[] eg b 0 zs.length c zs w
    (span_pred w) (Nat.le_refl _) (by omega) hb hc
  change Calls Tryd.prog 50 _ _ _ at hcon
  rw [List.take_length, hr] at hcon
  clear hc hr
  generalize zs.length = n at *
  cases r
  · go_enter Tryd.func33, Tryd.ntmps33
    go_wp2_with (go_at_call 50; refine hcon.mono ?_; rintro e w' ⟨rfl, hb'⟩)
    go_ret
    exact ⟨rfl, hb'⟩
  · go_enter Tryd.func33, Tryd.ntmps33
    go_wp2_with (go_at_call 50; refine hcon.mono ?_; rintro e w' ⟨rfl, hb'⟩)
    go_ret
    exact ⟨rfl, hb'⟩

theorem bcell {W w1 : World} (hb : Below W.heap.size W w1) : (∀ b o, b < W.heap.size → w1.cell? ⟨b, o, none⟩ = W.cell? ⟨b, o, none⟩) ∧ (∀ b o, b < W.heap.size → w1.frozen? ⟨b, o, none⟩ = W.frozen? ⟨b, o, none⟩) :=
  ⟨fun b o h => hb.cell (p := ⟨b, o, none⟩) h, fun b o h => hb.frozen (p := ⟨b, o, none⟩) h⟩

theorem scheck1 (r : Bool) (a1 a2 a3 : Int) (n : Nat) (V : World) (hn : V.heap.size = n)
    (hr : [(a1, a2, a3)].any spanB = r) :
    Calls Tryd.prog 33 #[.slice (some ⟨n, 0, none⟩) 1 1] (V.alloc (.cells #[.int .i64 a1, .int .i64 a2, .int .i64 a3] 77))
      fun e w' => e = .returned (errV (rangeE r)) ∧ Below V.heap.size V w' := by
  refine (scheck_is r n 1 [(a1, a2, a3)] _ (by simp [← hn]) (by simp) ?_ hr).mono ?_
  · intro j hj i v hv
    have hj4 : j < 1 := hj
    rw [World.cell?_alloc_at _ _ _ _ hn.symm]
    rcases j with _ | j
    · rcases i with _ | _ | _ | i <;> simp_all [spanV]
    · omega
  · rintro e w' ⟨rfl, hb⟩
    exact ⟨rfl, ((Below.refl _ V).alloc (Nat.le_refl _) _).trans (hb.mono (by simp))⟩

theorem scheck2 (r : Bool) (a1 a2 a3 b1 b2 b3 : Int) (n : Nat) (V : World) (hn : V.heap.size = n)
    (hr : [(a1, a2, a3), (b1, b2, b3)].any spanB = r) :
    Calls Tryd.prog 33 #[.slice (some ⟨n, 0, none⟩) 2 2] (V.alloc (.cells #[.int .i64 a1, .int .i64 a2, .int .i64 a3, .int .i64 b1, .int .i64 b2, .int .i64 b3] 77))
      fun e w' => e = .returned (errV (rangeE r)) ∧ Below V.heap.size V w' := by
  refine (scheck_is r n 2 [(a1, a2, a3), (b1, b2, b3)] _ (by simp [← hn]) (by simp) ?_ hr).mono ?_
  · intro j hj i v hv
    have hj4 : j < 2 := hj
    rw [World.cell?_alloc_at _ _ _ _ hn.symm]
    rcases j with _ | _ | j
    · rcases i with _ | _ | _ | i <;> simp_all [spanV]
    · rcases i with _ | _ | _ | i <;> simp_all [spanV]
    · omega
  · rintro e w' ⟨rfl, hb⟩
    exact ⟨rfl, ((Below.refl _ V).alloc (Nat.le_refl _) _).trans (hb.mono (by simp))⟩

theorem scheck3 (r : Bool) (a1 a2 a3 b1 b2 b3 c1 c2 c3 : Int) (n : Nat) (V : World) (hn : V.heap.size = n)
    (hr : [(a1, a2, a3), (b1, b2, b3), (c1, c2, c3)].any spanB = r) :
    Calls Tryd.prog 33 #[.slice (some ⟨n, 0, none⟩) 3 3] (V.alloc (.cells #[.int .i64 a1, .int .i64 a2, .int .i64 a3, .int .i64 b1, .int .i64 b2, .int .i64 b3, .int .i64 c1, .int .i64 c2, .int .i64 c3] 77))
      fun e w' => e = .returned (errV (rangeE r)) ∧ Below V.heap.size V w' := by
  refine (scheck_is r n 3 [(a1, a2, a3), (b1, b2, b3), (c1, c2, c3)] _ (by simp [← hn]) (by simp) ?_ hr).mono ?_
  · intro j hj i v hv
    have hj4 : j < 3 := hj
    rw [World.cell?_alloc_at _ _ _ _ hn.symm]
    rcases j with _ | _ | _ | j
    · rcases i with _ | _ | _ | i <;> simp_all [spanV]
    · rcases i with _ | _ | _ | i <;> simp_all [spanV]
    · rcases i with _ | _ | _ | i <;> simp_all [spanV]
    · omega
  · rintro e w' ⟨rfl, hb⟩
    exact ⟨rfl, ((Below.refl _ V).alloc (Nat.le_refl _) _).trans (hb.mono (by simp))⟩

theorem scheck4 (r : Bool) (a1 a2 a3 b1 b2 b3 c1 c2 c3 d1 d2 d3 : Int) (n : Nat) (V : World) (hn : V.heap.size = n)
    (hr : [(a1, a2, a3), (b1, b2, b3), (c1, c2, c3), (d1, d2, d3)].any spanB = r) :
    Calls Tryd.prog 33 #[.slice (some ⟨n, 0, none⟩) 4 4] (V.alloc (.cells #[.int .i64 a1, .int .i64 a2, .int .i64 a3, .int .i64 b1, .int .i64 b2, .int .i64 b3, .int .i64 c1, .int .i64 c2, .int .i64 c3, .int .i64 d1, .int .i64 d2, .int .i64 d3] 77))
      fun e w' => e = .returned (errV (rangeE r)) ∧ Below V.heap.size V w' := by
  refine (scheck_is r n 4 [(a1, a2, a3), (b1, b2, b3), (c1, c2, c3), (d1, d2, d3)] _ (by simp [← hn]) (by simp) ?_ hr).mono ?_
  · intro j hj i v hv
    have hj4 : j < 4 := hj
    rw [World.cell?_alloc_at _ _ _ _ hn.symm]
    rcases j with _ | _ | _ | _ | j
    · rcases i with _ | _ | _ | i <;> simp_all [spanV]
    · rcases i with _ | _ | _ | i <;> simp_all [spanV]
    · rcases i with _ | _ | _ | i <;> simp_all [spanV]
    · rcases i with _ | _ | _ | i <;> simp_all [spanV]
    · omega
  · rintro e w' ⟨rfl, hb⟩
    exact ⟨rfl, ((Below.refl _ V).alloc (Nat.le_refl _) _).trans (hb.mono (by simp))⟩

theorem scheck5 (r : Bool) (a1 a2 a3 b1 b2 b3 c1 c2 c3 d1 d2 d3 e1 e2 e3 : Int) (n : Nat) (V : World) (hn : V.heap.size = n)
    (hr : [(a1, a2, a3), (b1, b2, b3), (c1, c2, c3), (d1, d2, d3), (e1, e2, e3)].any spanB = r) :
    Calls Tryd.prog 33 #[.slice (some ⟨n, 0, none⟩) 5 5] (V.alloc (.cells #[.int .i64 a1, .int .i64 a2, .int .i64 a3, .int .i64 b1, .int .i64 b2, .int .i64 b3, .int .i64 c1, .int .i64 c2, .int .i64 c3, .int .i64 d1, .int .i64 d2, .int .i64 d3, .int .i64 e1, .int .i64 e2, .int .i64 e3] 77))
      fun e w' => e = .returned (errV (rangeE r)) ∧ Below V.heap.size V w' := by
  refine (scheck_is r n 5 [(a1, a2, a3), (b1, b2, b3), (c1, c2, c3), (d1, d2, d3), (e1, e2, e3)] _ (by simp [← hn]) (by simp) ?_ hr).mono ?_
  · intro j hj i v hv
    have hj4 : j < 5 := hj
    rw [World.cell?_alloc_at _ _ _ _ hn.symm]
    rcases j with _ | _ | _ | _ | _ | j
    · rcases i with _ | _ | _ | i <;> simp_all [spanV]
    · rcases i with _ | _ | _ | i <;> simp_all [spanV]
    · rcases i with _ | _ | _ | i <;> simp_all [spanV]
    · rcases i with _ | _ | _ | i <;> simp_all [spanV]
    · rcases i with _ | _ | _ | i <;> simp_all [spanV]
    · omega
  · rintro e w' ⟨rfl, hb⟩
    exact ⟨rfl, ((Below.refl _ V).alloc (Nat.le_refl _) _).trans (hb.mono (by simp))⟩

end Go.Proofs.YtndkabnmffgebaaDoor.spn
