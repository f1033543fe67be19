/- Contracts of Go's library at this translation's numbers: each is one application of a theorem of the kit's shelf. Written by program. Contracts over this seat's translation: package span. Contracts over this seat's translation: span.Check. -/
import Derived.Shelf.SlicesQ.IndexFunc
import Derived.Test.YtegbicmfgblphaaDoorProg
import Derived.WalkKit
import Derived.ProofKit
import Derived.Outline
import Derived.WalkSpells
import Derived.WalkLawsBesides
import Derived.Below
import Derived.Handy
import Derived.Deep.RegionHeld3
import Derived.Deep.AppendLies
import Derived.Deep.DrawnRows
import Derived.Deep.CutRange
import Derived.Deep.DeepCutAuto
import Derived.Deep.MidRow
import Derived.BigQuiet
namespace Go.Proofs
open Go.Shelf
def Tryd.lh8_ren : Go.Shelf.Ren := ⟨fun | 8 => 43 | 6 => 61 | n => n, fun | 22 => 96 | 23 => 61 | 25 => 98 | 4 => 4 | 3 => 3 | 0 => 0 | n => n, fun | n => n⟩
theorem Tryd.lh8 : Go.Proofs.SlLaysH0.n8 Tryd.prog Tryd.lh8_ren := {
  mixed := by kernel_rfl
  f6 := ⟨Tryd.f61.name, by decide, Tryd.func61.trans (congrArg some (by kernel_rfl))⟩
  f8 := ⟨Tryd.f43.name, by decide, Tryd.func43.trans (congrArg some (by kernel_rfl))⟩
  t0 := Tryd.underlying0
  a0 := Tryd.isAgg0
  z0 := Tryd.sizeOf0
  v0 := Tryd.zeroValue0
  t3 := Tryd.underlying3
  a3 := Tryd.isAgg3
  z3 := Tryd.sizeOf3
  v3 := Tryd.zeroValue3
  t4 := Tryd.underlying4
  a4 := Tryd.isAgg4
  z4 := Tryd.sizeOf4
  v4 := Tryd.zeroValue4
  t22 := Tryd.underlying96
  a22 := Tryd.isAgg96
  z22 := Tryd.sizeOf96
  v22 := Tryd.zeroValue96
  t25 := Tryd.underlying98
  a25 := Tryd.isAgg98
  z25 := Tryd.sizeOf98
  v25 := Tryd.zeroValue98 }
def Tryd.lq6_ren : Go.Shelf.Ren := ⟨fun | 6 => 76 | n => n, fun | 22 => 24 | 23 => 23 | 25 => 148 | 3 => 3 | 0 => 0 | 4 => 4 | n => n, fun | n => n⟩
theorem Tryd.lq6 : Go.Proofs.SlLaysH0.n6 Tryd.prog Tryd.lq6_ren := {
  mixed := by kernel_rfl
  f6 := ⟨Tryd.f76.name, by decide, Tryd.func76.trans (congrArg some (by kernel_rfl))⟩
  t0 := Tryd.underlying0
  a0 := Tryd.isAgg0
  z0 := Tryd.sizeOf0
  v0 := Tryd.zeroValue0
  t3 := Tryd.underlying3
  a3 := Tryd.isAgg3
  z3 := Tryd.sizeOf3
  v3 := Tryd.zeroValue3
  t4 := Tryd.underlying4
  a4 := Tryd.isAgg4
  z4 := Tryd.sizeOf4
  v4 := Tryd.zeroValue4
  t22 := Tryd.underlying24
  a22 := Tryd.isAgg24
  z22 := Tryd.sizeOf24
  v22 := Tryd.zeroValue24
  t25 := Tryd.underlying148
  a25 := Tryd.isAgg148
  z25 := Tryd.sizeOf148
  v25 := Tryd.zeroValue148 }
def Tryd.lq6l_ren : Go.Shelf.Ren := ⟨fun | 6 => 67 | n => n, fun | 22 => 27 | 23 => 26 | 25 => 140 | 3 => 3 | 0 => 0 | 4 => 4 | n => n, fun | n => n⟩
theorem Tryd.lq6l : Go.Proofs.SlLaysH0.n6 Tryd.prog Tryd.lq6l_ren := {
  mixed := by kernel_rfl
  f6 := ⟨Tryd.f67.name, by decide, Tryd.func67.trans (congrArg some (by kernel_rfl))⟩
  t0 := Tryd.underlying0
  a0 := Tryd.isAgg0
  z0 := Tryd.sizeOf0
  v0 := Tryd.zeroValue0
  t3 := Tryd.underlying3
  a3 := Tryd.isAgg3
  z3 := Tryd.sizeOf3
  v3 := Tryd.zeroValue3
  t4 := Tryd.underlying4
  a4 := Tryd.isAgg4
  z4 := Tryd.sizeOf4
  v4 := Tryd.zeroValue4
  t22 := Tryd.underlying27
  a22 := Tryd.isAgg27
  z22 := Tryd.sizeOf27
  v22 := Tryd.zeroValue27
  t25 := Tryd.underlying140
  a25 := Tryd.isAgg140
  z25 := Tryd.sizeOf140
  v25 := Tryd.zeroValue140 }
end Go.Proofs
namespace Go.Proofs.YtegbicmfgblphaaDoor.spn
open Go.RowKit

theorem keeps {V W : World} (h : Below V.heap.size V W) {a : Addr} {v : Value} (hc : V.cell? a = some v) : W.cell? a = some v :=
  (h.cell (p := a) (World.block_lt_of_cell? V a hc)).trans hc

/-- A number that is outside of its span. -/
def spanB (x : Int × Int × Int) : Bool := decide (x.1 < x.2.1) || decide (x.2.2 < x.1)
def spanV (x : Int × Int × Int) : List Value := [.int .i64 x.1, .int .i64 x.2.1, .int .i64 x.2.2]

theorem of_any (n lo hi : Int) (w : World) :
    Calls Tryd.prog 21 #[.int .i64 n, .int .i64 lo, .int .i64 hi] w fun e w' => e = .returned (.agg #[.int .i64 n, .int .i64 lo, .int .i64 hi]) ∧ Below w.heap.size w w' := by
  go_enter Tryd.func21, Tryd.ntmps21
  go_wp2
  go_returns
  exact ⟨rfl, (Below.refl _ _).alloc (Nat.le_refl _) _⟩
theorem id_any (n : Int) (w : World) :
    Calls Tryd.prog 37 #[.int .i64 n] w fun e w' => e = .returned (.agg #[.int .i64 n, .int .i64 1, .int .i64 9999]) ∧ Below w.heap.size w w' := by
  go_enter Tryd.func37, Tryd.ntmps37
  go_wp2
  go_returns
  exact ⟨rfl, ((Below.refl _ _).alloc (Nat.le_refl _) _).alloc (by simp) _⟩
theorem who_any (n : Int) (w : World) :
    Calls Tryd.prog 38 #[.int .i64 n] w fun e w' => e = .returned (.agg #[.int .i64 n, .int .i64 1, .int .i64 9]) ∧ Below w.heap.size w w' := by
  go_enter Tryd.func38, Tryd.ntmps38
  go_wp2
  go_returns
  exact ⟨rfl, ((Below.refl _ _).alloc (Nat.le_refl _) _).alloc (by simp) _⟩
theorem qty_any (n : Int) (w : World) :
    Calls Tryd.prog 41 #[.int .i64 n] w fun e w' => e = .returned (.agg #[.int .i64 n, .int .i64 1, .int .i64 10000]) ∧ Below w.heap.size w w' := by
  go_enter Tryd.func41, Tryd.ntmps41
  go_wp2
  go_returns
  exact ⟨rfl, ((Below.refl _ _).alloc (Nat.le_refl _) _).alloc (by simp) _⟩
theorem price_any (n : Int) (w : World) :
    Calls Tryd.prog 60 #[.int .i64 n] w fun e w' => e = .returned (.agg #[.int .i64 n, .int .i64 1, .int .i64 10000]) ∧ Below w.heap.size w w' := by
  go_enter Tryd.func60, Tryd.ntmps60
  go_wp2
  go_returns
  exact ⟨rfl, ((Below.refl _ _).alloc (Nat.le_refl _) _).alloc (by simp) _⟩
theorem side_any (n : Int) (w : World) :
    Calls Tryd.prog 39 #[.int .i64 n] w fun e w' => e = .returned (.agg #[.int .i64 n, .int .i64 1, .int .i64 2]) ∧ Below w.heap.size w w' := by
  go_enter Tryd.func39, Tryd.ntmps39
  go_wp2
  go_returns
  exact ⟨rfl, ((Below.refl _ _).alloc (Nat.le_refl _) _).alloc (by simp) _⟩

end Go.Proofs.YtegbicmfgblphaaDoor.spn
namespace Go.Proofs.YtegbicmfgblphaaDoor.spn
open Go.RowKit

/-- The error of a number: nil of 0, else that Errno. -/
def errV (k : Int) : Value := if k = 0 then .nilIface else .iface 44 (.int .i64 k)
theorem errV_zero : errV 0 = .nilIface := rfl
theorem errV_of {k : Int} (h : ¬ k = 0) : errV k = .iface 44 (.int .i64 k) := if_neg h
def rangeE (r : Bool) : Int := if r = true then 1 else 0

theorem span_pred (w : World) : PredBelow Tryd.prog 44 #[] (fun x => .agg (spanV x).toArray) spanB w := by
  intro W x hb
  obtain ⟨n, lo, hi⟩ := x
  show Calls Tryd.prog 44 #[.agg #[.int .i64 n, .int .i64 lo, .int .i64 hi]] W _
  by_cases h : n < lo
  · go_enter Tryd.func44, Tryd.ntmps44
    go_wp2
    go_ret
    exact ⟨by simp [spanB, h], hb.alloc hb.size _⟩
  · go_enter Tryd.func44, Tryd.ntmps44
    go_wp2
    go_ret
    have e1 : spanB (n, lo, hi) = decide (hi < n) := by
      unfold spanB
      rw [show decide (n < lo) = false from by simp; omega]
      rfl
    exact ⟨by rw [e1]; rfl, hb.alloc hb.size _⟩

theorem scheck_is (r : Bool) (b c : Nat) (zs : List (Int × Int × Int)) (w : World) (hb : b < w.heap.size) (hn : zs.length ≤ 9)
    (hc : ∀ j, j < zs.length → ∀ i v, (spanV zs[j]!)[i]? = some v → w.cell? ⟨b, 0 + j * 3 + i, none⟩ = some v) (hr : zs.any spanB = r) :
    Calls Tryd.prog 20 #[.slice (some ⟨b, 0, none⟩) zs.length c] w fun e w' => e = .returned (errV (rangeE r)) ∧ Below w.heap.size w w' := by
  have eg : ∀ args w, (callFunc 44 args).run Tryd.prog w = .ok (.enter 44 args) w := enters_of Tryd.func44 (by kernel_rfl) rfl
  have hcon := AnyQ.slices_ContainsFunc Tryd.lh8 3 Tryd.isAgg61 Tryd.sizeOf61 spanV (fun x => rfl) spanB 44 #[] eg b 0 zs.length c zs w
    (span_pred w) (Nat.le_refl _) (by omega) hb hc
  change Calls Tryd.prog 43 _ _ _ at hcon
  rw [List.take_length, hr] at hcon
  clear hc hr
  generalize zs.length = n at *
  cases r
  · go_enter Tryd.func20, Tryd.ntmps20
    go_wp2_with (go_at_call 43; refine hcon.mono ?_; rintro e w' ⟨rfl, hb'⟩)
    go_ret
    exact ⟨rfl, hb'⟩
  · go_enter Tryd.func20, Tryd.ntmps20
    go_wp2_with (go_at_call 43; refine hcon.mono ?_; rintro e w' ⟨rfl, hb'⟩)
    go_ret
    exact ⟨rfl, hb'⟩

theorem bcell {W w1 : World} (hb : Below W.heap.size W w1) : (∀ b o, b < W.heap.size → w1.cell? ⟨b, o, none⟩ = W.cell? ⟨b, o, none⟩) ∧ (∀ b o, b < W.heap.size → w1.frozen? ⟨b, o, none⟩ = W.frozen? ⟨b, o, none⟩) :=
  ⟨fun b o h => hb.cell (p := ⟨b, o, none⟩) h, fun b o h => hb.frozen (p := ⟨b, o, none⟩) h⟩

theorem scheck1 (r : Bool) (a1 a2 a3 : Int) (n : Nat) (V : World) (hn : V.heap.size = n)
    (hr : [(a1, a2, a3)].any spanB = r) :
    Calls Tryd.prog 20 #[.slice (some ⟨n, 0, none⟩) 1 1] (V.alloc (.cells #[.int .i64 a1, .int .i64 a2, .int .i64 a3] 61))
      fun e w' => e = .returned (errV (rangeE r)) ∧ Below V.heap.size V w' := by
  refine (scheck_is r n 1 [(a1, a2, a3)] _ (by simp [← hn]) (by simp) ?_ hr).mono ?_
  · intro j hj i v hv
    have hj4 : j < 1 := hj
    rw [World.cell?_alloc_at _ _ _ _ hn.symm]
    rcases j with _ | j
    · rcases i with _ | _ | _ | i <;> simp_all [spanV]
    · omega
  · rintro e w' ⟨rfl, hb⟩
    exact ⟨rfl, ((Below.refl _ V).alloc (Nat.le_refl _) _).trans (hb.mono (by simp))⟩

theorem scheck2 (r : Bool) (a1 a2 a3 b1 b2 b3 : Int) (n : Nat) (V : World) (hn : V.heap.size = n)
    (hr : [(a1, a2, a3), (b1, b2, b3)].any spanB = r) :
    Calls Tryd.prog 20 #[.slice (some ⟨n, 0, none⟩) 2 2] (V.alloc (.cells #[.int .i64 a1, .int .i64 a2, .int .i64 a3, .int .i64 b1, .int .i64 b2, .int .i64 b3] 61))
      fun e w' => e = .returned (errV (rangeE r)) ∧ Below V.heap.size V w' := by
  refine (scheck_is r n 2 [(a1, a2, a3), (b1, b2, b3)] _ (by simp [← hn]) (by simp) ?_ hr).mono ?_
  · intro j hj i v hv
    have hj4 : j < 2 := hj
    rw [World.cell?_alloc_at _ _ _ _ hn.symm]
    rcases j with _ | _ | j
    · rcases i with _ | _ | _ | i <;> simp_all [spanV]
    · rcases i with _ | _ | _ | i <;> simp_all [spanV]
    · omega
  · rintro e w' ⟨rfl, hb⟩
    exact ⟨rfl, ((Below.refl _ V).alloc (Nat.le_refl _) _).trans (hb.mono (by simp))⟩

theorem scheck3 (r : Bool) (a1 a2 a3 b1 b2 b3 c1 c2 c3 : Int) (n : Nat) (V : World) (hn : V.heap.size = n)
    (hr : [(a1, a2, a3), (b1, b2, b3), (c1, c2, c3)].any spanB = r) :
    Calls Tryd.prog 20 #[.slice (some ⟨n, 0, none⟩) 3 3] (V.alloc (.cells #[.int .i64 a1, .int .i64 a2, .int .i64 a3, .int .i64 b1, .int .i64 b2, .int .i64 b3, .int .i64 c1, .int .i64 c2, .int .i64 c3] 61))
      fun e w' => e = .returned (errV (rangeE r)) ∧ Below V.heap.size V w' := by
  refine (scheck_is r n 3 [(a1, a2, a3), (b1, b2, b3), (c1, c2, c3)] _ (by simp [← hn]) (by simp) ?_ hr).mono ?_
  · intro j hj i v hv
    have hj4 : j < 3 := hj
    rw [World.cell?_alloc_at _ _ _ _ hn.symm]
    rcases j with _ | _ | _ | j
    · rcases i with _ | _ | _ | i <;> simp_all [spanV]
    · rcases i with _ | _ | _ | i <;> simp_all [spanV]
    · rcases i with _ | _ | _ | i <;> simp_all [spanV]
    · omega
  · rintro e w' ⟨rfl, hb⟩
    exact ⟨rfl, ((Below.refl _ V).alloc (Nat.le_refl _) _).trans (hb.mono (by simp))⟩

theorem scheck4 (r : Bool) (a1 a2 a3 b1 b2 b3 c1 c2 c3 d1 d2 d3 : Int) (n : Nat) (V : World) (hn : V.heap.size = n)
    (hr : [(a1, a2, a3), (b1, b2, b3), (c1, c2, c3), (d1, d2, d3)].any spanB = r) :
    Calls Tryd.prog 20 #[.slice (some ⟨n, 0, none⟩) 4 4] (V.alloc (.cells #[.int .i64 a1, .int .i64 a2, .int .i64 a3, .int .i64 b1, .int .i64 b2, .int .i64 b3, .int .i64 c1, .int .i64 c2, .int .i64 c3, .int .i64 d1, .int .i64 d2, .int .i64 d3] 61))
      fun e w' => e = .returned (errV (rangeE r)) ∧ Below V.heap.size V w' := by
  refine (scheck_is r n 4 [(a1, a2, a3), (b1, b2, b3), (c1, c2, c3), (d1, d2, d3)] _ (by simp [← hn]) (by simp) ?_ hr).mono ?_
  · intro j hj i v hv
    have hj4 : j < 4 := hj
    rw [World.cell?_alloc_at _ _ _ _ hn.symm]
    rcases j with _ | _ | _ | _ | j
    · rcases i with _ | _ | _ | i <;> simp_all [spanV]
    · rcases i with _ | _ | _ | i <;> simp_all [spanV]
    · rcases i with _ | _ | _ | i <;> simp_all [spanV]
    · rcases i with _ | _ | _ | i <;> simp_all [spanV]
    · omega
  · rintro e w' ⟨rfl, hb⟩
    exact ⟨rfl, ((Below.refl _ V).alloc (Nat.le_refl _) _).trans (hb.mono (by simp))⟩

theorem scheck5 (r : Bool) (a1 a2 a3 b1 b2 b3 c1 c2 c3 d1 d2 d3 e1 e2 e3 : Int) (n : Nat) (V : World) (hn : V.heap.size = n)
    (hr : [(a1, a2, a3), (b1, b2, b3), (c1, c2, c3), (d1, d2, d3), (e1, e2, e3)].any spanB = r) :
    Calls Tryd.prog 20 #[.slice (some ⟨n, 0, none⟩) 5 5] (V.alloc (.cells #[.int .i64 a1, .int .i64 a2, .int .i64 a3, .int .i64 b1, .int .i64 b2, .int .i64 b3, .int .i64 c1, .int .i64 c2, .int .i64 c3, .int .i64 d1, .int .i64 d2, .int .i64 d3, .int .i64 e1, .int .i64 e2, .int .i64 e3] 61))
      fun e w' => e = .returned (errV (rangeE r)) ∧ Below V.heap.size V w' := by
  refine (scheck_is r n 5 [(a1, a2, a3), (b1, b2, b3), (c1, c2, c3), (d1, d2, d3), (e1, e2, e3)] _ (by simp [← hn]) (by simp) ?_ hr).mono ?_
  · intro j hj i v hv
    have hj4 : j < 5 := hj
    rw [World.cell?_alloc_at _ _ _ _ hn.symm]
    rcases j with _ | _ | _ | _ | _ | j
    · rcases i with _ | _ | _ | i <;> simp_all [spanV]
    · rcases i with _ | _ | _ | i <;> simp_all [spanV]
    · rcases i with _ | _ | _ | i <;> simp_all [spanV]
    · rcases i with _ | _ | _ | i <;> simp_all [spanV]
    · rcases i with _ | _ | _ | i <;> simp_all [spanV]
    · omega
  · rintro e w' ⟨rfl, hb⟩
    exact ⟨rfl, ((Below.refl _ V).alloc (Nat.le_refl _) _).trans (hb.mono (by simp))⟩

end Go.Proofs.YtegbicmfgblphaaDoor.spn
