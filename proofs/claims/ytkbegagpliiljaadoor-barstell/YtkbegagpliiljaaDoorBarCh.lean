/- Contracts over this seat's translation: slices.Chunk at trades: what it hands back goes through the parts of a slice, one by one. -/
import Derived.Test.YtkbegagpliiljaaDoorBarSl
import Derived.RangeFuncBox
import Derived.RangeFuncLeaves
import Derived.RangeFuncCalls
import Derived.Shelf.Abstract
import Derived.Shelf.RegionOpen
import Derived.WalkKit
import Derived.OwnWalkIn
import Derived.TacticsInMore
import Derived.LoopNIn
import Derived.LoopIn
namespace Go.Proofs.YtkbegagpliiljaaDoor.bar
open Go.RowKit Go.Shelf Go.Proofs.YtkbegagpliiljaaDoor.mee
open Go.Proofs.YtkbegagpliiljaaDoor.spn (keeps)
attribute [local go_sem] Oper.semAt_some

/-- How many parts of n there are. -/
def cnt (n len : Nat) : Nat := (len + n - 1) / n
theorem cnt_of {n len k : Nat} (hn : 1 ≤ n) (h1 : len ≤ k * n) (h2 : k * n < len + n) : k = cnt n len := by
  unfold cnt
  symm
  rw [Nat.div_eq_iff (by omega)]
  have e : (k + 1) * n = k * n + n := by rw [Nat.add_mul]; omega
  omega
/-- All blocks below n1 but one are as they were. -/
def KB (P n1 : Nat) (W W' : World) : Prop := ∀ k, k < n1 → k ≠ P → W'.heap[k]? = W.heap[k]?
theorem KB.trans {P n1 : Nat} {A B C : World} (h : KB P n1 A B) (k : KB P n1 B C) : KB P n1 A C := fun i h1 h2 => (k i h1 h2).trans (h i h1 h2)
theorem KB.put {P n1 : Nat} {w : World} (hn : n1 ≤ w.heap.size) (W : World) (l : Nat) (o o' : Obj) (hl : w.heap.size ≤ l) (_ : W.heap[l]? = some o) (_ : o.isCells = false) (_ : o.isWalk = false) : KB P n1 W (W.putObj l o') :=
  fun k hk _ => World.putObj_heap_other (by omega)
theorem KB.cell {P n1 : Nat} {W W' : World} (h : KB P n1 W W') {b o : Nat} {v : Value} (hb : b < n1) (hp : b ≠ P) (hc : W.cell? ⟨b, o, none⟩ = some v) : W'.cell? ⟨b, o, none⟩ = some v := by
  unfold World.cell? at hc ⊢
  rw [h b hb hp]
  exact hc

/-- Where the parts begin. -/
def beg {len : Nat} (l : List (Fin len)) : List Nat := l.map (fun x => x.1)
def parts (n k : Nat) : List Nat := (List.range k).map (fun j => j * n)
theorem parts_succ (n k : Nat) : parts n (k + 1) = parts n k ++ [k * n] := by simp [parts, List.range_succ]
/-- A part of a slice. -/
abbrev encP (b off n len : Nat) (x : Fin len) : Array Value := #[.slice (some ⟨b, off + x.1 * 6, none⟩) (min n (len - x.1)) (min n (len - x.1))]

def left (N : Nat) (v : Value) : Nat := N - (intOf v).toNat
theorem left_lt {N i : Nat} {x : Int} {m : Nat} (h : x = ((m : Nat) : Int)) (h2 : N - m < N - i) : left N (.int .i64 x) < left N (.int .i64 (i : Int)) := by
  subst h
  simpa [left, intOf] using h2
theorem offs {i e len cap : Nat} (h : 1 ≤ e ∧ i + e ≤ len ∧ len ≤ cap ∧ len ≤ 400) : ∃ d, d = i + e ∧ (i : Int) + (e : Int) = (d : Int) ∧ wrap64 (d : Int) = (d : Int) ∧ d - i = e ∧ (i : Int) ≤ (d : Int) ∧ (d : Int) ≤ (cap : Int) ∧ ¬ d = i :=
  ⟨i + e, rfl, by omega, by unfold wrap64; omega, by omega, by omega, by omega, by omega⟩

set_option maxRecDepth 100000 in
set_option maxHeartbeats 1000000 in
theorem chunk1_in (m : Nat) (hm : 1 ≤ m) (l Bs Bn P n1 b off len cap n : Nat) (q : Option Addr)
    (hn : 1 ≤ n) (hn4 : n ≤ 400) (hl4 : len ≤ 400) (hlc : len ≤ cap) (hq : 0 < len → q = some ⟨b, off, none⟩) (hs1 : Bs < n1) (hs2 : Bs ≠ P) (hb1 : Bn < n1) (hb2 : Bn ≠ P)
    (J Jx : List (Fin len) → World → Prop)
    (B1 : Nat) (hJ : AbidesFrom B1 J)
    (hY : ∀ pre x W, J pre W → pre.length < len → YieldAt Fence.wide (m - 1) Tryd.prog l (encP b off n len x) W fun e W' =>
      (e = .returned (.bool true) ∧ J (pre ++ [x]) W' ∧ KB P n1 W W') ∨ (e = .returned (.bool false) ∧ Jx (pre ++ [x]) W'))
    (W : World) (hS : W.cell? ⟨Bs, 0, none⟩ = some (.slice q len cap)) (hN : W.cell? ⟨Bn, 0, none⟩ = some (.int .i64 n)) (h0 : J [] W) :
    CallsIn Fence.wide m Tryd.prog 29 #[.func (.yield l) #[] #[], .pointer (some ⟨Bs, 0, none⟩), .pointer (some ⟨Bn, 0, none⟩)] W fun e W' => (∃ v, e = .returned v) ∧
      ((∃ ys, beg ys = parts n (cnt n len) ∧ J ys W') ∨ (∃ pre, True ∧ Jx pre W')) := by
  refine callsIn_of_wp Tryd.func29 rfl trivial ?_ rfl
  simp only [Tryd.ntmps29, List.size_toArray, List.length_cons, List.length_nil, Nat.reduceAdd, Nat.reduceSub, Array.replicate_succ, Array.replicate_zero, List.push_toArray, List.append_toArray, List.nil_append, List.cons_append]
  gi_wp2
  gi_loopw [4, 5] (fun s4 _ wr => ∃ (k i : Nat) (pre : List (Fin len)), s4 = .int .i64 (i : Int) ∧ i = k * n ∧ i < len + n ∧ beg pre = parts n k ∧ J pre wr ∧ KB P n1 W wr)
    (fun s4 _ _ => left (len + n) s4)
  case atStart => exact ⟨0, 0, [], rfl, by simp, by omega, rfl, h0, fun _ _ _ => rfl⟩
  case round =>
    obtain ⟨k, i, pre, rfl, hi, hk, hpre, hJs, hKB⟩ := hrel
    have hS' := hKB.cell hs1 hs2 hS
    have hN' := hKB.cell hb1 hb2 hN
    have hpl : pre.length = k := by have := congrArg List.length hpre; simpa [beg, parts] using this
    have hk1 : (k + 1) * n = i + n := by rw [Nat.add_mul]; omega
    have hkk : k ≤ i := by rw [hi]; exact Nat.le_mul_of_pos_right k hn
    by_cases hlt : i < len
    · obtain rfl := hq (by omega)
      have hx := hY pre ⟨i, hlt⟩
      have hltz : (i : Int) < (len : Int) := by omega
      have hmx : Tryd.prog.follows .mixedOrders = true := by kernel_rfl
      have hi0 : ¬ (i : Int) < 0 := by omega
      have hic : ¬ (len : Int) < (i : Int) := by omega
      have hicc : ¬ cap = i := by omega
      have hle : (len : Int) ≤ (cap : Int) := by omega
      have he : ((len : Int) - (i : Int)) = ((len - i : Nat) : Int) := by omega
      have hmin : min (n : Int) (((len - i : Nat) : Int)) = ((min n (len - i) : Nat) : Int) := by
        rcases Nat.le_total n (len - i) with h | h
        · rw [Nat.min_eq_left h, Int.min_eq_left (by omega)]
        · rw [Nat.min_eq_right h, Int.min_eq_right (by omega)]
      have HW : Hid (wrap64 ((i : Int) + (n : Int)) = ((i + n : Nat) : Int)) := by show wrap64 _ = _; unfold wrap64; omega
      have HNP : Hid (i + n < len + n ∧ len + n - (i + n) < len + n - i) := ⟨by omega, by omega⟩
      have HI : Hid (i = k * n ∧ (k + 1) * n = i + n ∧ k ≤ i) := ⟨hi, hk1, hkk⟩
      have hcond : 0 ≤ (i : Int) ∧ (i : Int) ≤ (len : Int) := by omega
      clear hq hi hk1 hkk
      gi_wp2
      have hJd : ∀ q, J pre (wr.drewN q) := fun q => hJ _ _ _ none hJs ⟨rfl, rfl, rfl, Nat.le_refl _, fun _ _ _ => rfl⟩ (fun r e => by cases e)
      have hKd : ∀ q, KB P n1 W (wr.drewN q) := fun q => hKB
      have hSd : ∀ q, (wr.drewN q).cell? ⟨Bs, 0, none⟩ = some (.slice (some ⟨b, off, none⟩) len cap) := fun q => hS'
      have hNd : ∀ q, (wr.drewN q).cell? ⟨Bn, 0, none⟩ = some (.int .i64 n) := fun q => hN'
      obtain ⟨e, hee⟩ : ∃ e, e = min n (len - i) := ⟨_, rfl⟩
      have hmin' : ((min n (len - i) : Nat) : Int) = (e : Int) := by omega
      rw [hmin'] at hmin
      gi_quiet (fail)
      have hJd' := hidT (hJd nq)
      have hKd' := hidT (hKd nq)
      have hSd' := hSd nq
      have hNd' := hNd nq
      clear hJd hKd hSd hNd hJs hKB hS' hN'
      obtain ⟨wd, hwd⟩ : ∃ x, wr.drewN nq = x := ⟨_, rfl⟩
      rw [hwd] at hJd' hKd' hSd' hNd' ⊢
      obtain ⟨fn, tmps, assign, body, hy, hR⟩ := hx wd hJd'.out (by have := HI.out; omega)
      dsimp only [encP] at hy
      rw [← hee] at hy
      have he1 : 1 ≤ e ∧ i + e ≤ len ∧ len ≤ cap ∧ len ≤ 400 := by omega
      have HE := hidT he1
      clear hwd hx hee hmin hmin' he hlc hl4 hn4 hn hk hltz hicc hcond hi0 hle
      obtain ⟨d, hd, hd1, hd2, hd3, hd4, hd5, hd6⟩ := offs he1
      have HD := hidT hd
      clear he1 hd
      gi_wp2
      refine hR.mono ?_
      rintro ee W3 (⟨rfl, hJ3, hk3⟩ | ⟨rfl, hJx3⟩)
      · have hN3 := hk3.cell hb1 hb2 hNd'
        clear hR hy HD hd1 hd2 hd3 hd4 hd5 hd6 hSd' hNd'
        gi_wp2
        go_roundw
        case rel =>
          refine ⟨k + 1, i + n, pre ++ [⟨i, hlt⟩], congrArg (Value.int .i64) HW.out, HI.out.2.1.symm, HNP.out.1, ?_, hJ3, hKd'.out.trans hk3⟩
          rw [parts_succ, ← hpre, ← HI.out.1]
          simp [beg]
        case measure => exact left_lt HW.out HNP.out.2
      · gi_wp2
        refine bodyPost_ret (results_none rfl _ _ _) rfl ?_
        exact ⟨⟨_, rfl⟩, .inr ⟨_, trivial, hJx3⟩⟩
    · have hltz : ¬ (i : Int) < (len : Int) := by omega
      have hkc := cnt_of hn (show len ≤ k * n by omega) (by omega)
      subst hkc
      clear hi
      gi_wp2
      go_end0
      exact ⟨⟨_, rfl⟩, .inl ⟨pre, hpre, hJs⟩⟩
set_option maxHeartbeats 1000000 in
theorem chunk_in (q : Option Addr) (len cap n : Nat) (hn : 1 ≤ n) (w : World) :
    Calls Tryd.prog 16 #[.slice q len cap, .int .i64 n] w fun e w' =>
      e = .returned (.func (.func 29) #[] #[.pointer (some ⟨w.heap.size, 0, none⟩), .pointer (some ⟨w.heap.size + 1, 0, none⟩)]) ∧
      w' = (w.alloc (.cells #[.slice q len cap] 22)).alloc (.cells #[.int .i64 n] 3) := by
  have hnz : ¬ ((n : Int) < 1) := by omega
  go_enter Tryd.func16, Tryd.ntmps16
  go_wp2_with fail
  go_ret
  exact ⟨rfl, rfl⟩
/-- **slices.Chunk at trades**: what it hands back goes through the parts, one by one. -/
theorem chunk_stops (m : Nat) (hm : 1 ≤ m) (Bs Bn P b off len cap n : Nat) (q : Option Addr)
    (hn : 1 ≤ n) (hn4 : n ≤ 400) (hl4 : len ≤ 400) (hlc : len ≤ cap) (hq : 0 < len → q = some ⟨b, off, none⟩) (w : World) (hs1 : Bs < w.heap.size) (hs2 : Bs ≠ P) (hb1 : Bn < w.heap.size) (hb2 : Bn ≠ P)
    (hS : w.cell? ⟨Bs, 0, none⟩ = some (.slice q len cap)) (hN : w.cell? ⟨Bn, 0, none⟩ = some (.int .i64 n)) :
    SeqStopsK Fence.wide m Tryd.prog 29 #[.pointer (some ⟨Bs, 0, none⟩), .pointer (some ⟨Bn, 0, none⟩)] (encP b off n len) (KB P w.heap.size)
      (fun ys => beg ys = parts n (cnt n len)) (fun _ => True) len w := fun l J Jx W hW hJ _ hY h0 =>
  chunk1_in m hm l Bs Bn P w.heap.size b off len cap n q hn hn4 hl4 hlc hq hs1 hs2 hb1 hb2 J Jx _ hJ hY W ((hW.cell (p := ⟨Bs, 0, none⟩) hs1).trans hS) ((hW.cell (p := ⟨Bn, 0, none⟩) hb1).trans hN) h0
end Go.Proofs.YtkbegagpliiljaaDoor.bar
