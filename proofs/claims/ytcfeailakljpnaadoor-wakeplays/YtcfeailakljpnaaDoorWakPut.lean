/- Contracts over this seat's translation: wake.New, (*Stops).Put, (*Stops).All. -/
import Derived.Test.YtcfeailakljpnaaDoorWakFind
import Derived.Test.YtcfeailakljpnaaDoorWakCat
import Derived.Deep.RegionLaw
namespace Go.Proofs.YtcfeailakljpnaaDoor.wak
open Go.RowKit Go.Proofs.YtcfeailakljpnaaDoor.ord
open Go.Proofs.YtcfeailakljpnaaDoor.spn (keeps bcell)

theorem hidW {P : Prop} (h : P) : Hid P := h
/-- All that lay there stands, but the Stops' own block and the block of what waits. -/
structure Trn (w w' : World) (p : Nat) (v : Value) : Prop where
  os : w'.os = w.os
  tape : w'.tape = w.tape
  output : w'.output = w.output
  size : w.heap.size ≤ w'.heap.size
  block : ∀ k, k < w.heap.size → k ≠ p → v.ownBlock ≠ some k → w'.heap[k]? = w.heap[k]?
theorem Trn.of_below {w w' : World} {p : Nat} {v : Value} (h : Below w.heap.size w w') : Trn w w' p v := ⟨h.os, h.tape, h.output, h.size, fun k hk _ _ => h.block k hk⟩
/-- What waits now lies where it lay, or in a new block. -/
def Frs (w : World) (v v' : Value) : Prop := v'.ownBlock = v.ownBlock ∨ ∀ k, v'.ownBlock = some k → w.heap.size ≤ k
theorem Trn.below {w w' : World} {b p : Nat} {v : Value} {os : List O} (h : Trn w w' p v) (hs : St w b p v os) : Below b w w' :=
  ⟨h.os, h.tape, h.output, h.size, fun k hk => h.block k (by have := hs.lt; have := hs.le; omega) (by have := hs.le; omega) (fun e => by have := (OwnM.lt hs.own k e).1; omega)⟩

/-- What is wrong with one more. -/
def putE (os : List O) (o : O) : Int := if chk o = 0 then (if o.stop = 0 then 6 else if 0 ≤ idx o.id os then 7 else if os.length = 20 then 4 else 0) else chk o
def putL (os : List O) (o : O) : List O := if putE os o = 0 then os ++ [o] else os

theorem new_any (w : World) : Calls Tryd.prog 4 #[] w fun e w' => e = .returned (.pointer (some ⟨w.heap.size, 0, none⟩)) ∧ St w' w.heap.size w.heap.size (.slice none 0 0) [] ∧ Below w.heap.size w w' := by
  have hr := heap_alloc_new w (.cells #[.slice none 0 0] 49)
  go_enter Tryd.func4, Tryd.ntmps4
  go_wp2
  go_ret
  exact ⟨rfl, ⟨hr, Nat.le_refl _, ⟨rfl, .inl ⟨rfl, rfl⟩⟩⟩, (Below.refl _ _).alloc (Nat.le_refl _) _⟩

theorem OwnQ.form {w : World} {base : Nat} {v : Value} {zs : List O} (h : OwnQ w base v zs) : ∃ q c, v = .slice q zs.length c := h.sl.form

/-- All. -/
theorem all_any (b p : Nat) (v : Value) (os : List O) (w : World) (h : St w b p v os) (hl : os.length ≤ 1000) :
    Calls Tryd.prog 15 #[.pointer (some ⟨p, 0, none⟩)] w fun e w' => ∃ q c, e = .returned (.slice q os.length c) ∧ OwnQ w' w.heap.size (.slice q os.length c) os ∧ Below w.heap.size w w' := by
  obtain ⟨vq, vc, hv⟩ := OwnQ.form h.own
  obtain ⟨vn, hvn⟩ : ∃ vn, vn = os.length := ⟨_, rfl⟩
  rw [← hvn] at hv
  subst hv
  have hc := h.cell
  generalize hvv : Value.slice vq vn vc = v at h hc
  have hB : Below w.heap.size w (w.alloc (.cells #[v] 22)) := (Below.refl _ _).alloc (Nat.le_refl _) _
  have hcon := concat_any w.heap.size 1 1 (fun _ => v) (fun _ => os) (w.alloc (.cells #[v] 22)) (by omega) (fun j hj => by
      obtain rfl : j = 0 := by omega
      simp [go_sem]) (fun j hj => (h.below hB).own.sl) (by simpa [upto] using hl)
  rw [show upto (fun _ => os) 1 = os by simp [upto]] at hcon
  subst hvv
  have HCON := hidW hcon
  have HVN := hidW hvn
  rw [← hvn]
  clear hcon h hvn
  go_enter Tryd.func15, Tryd.ntmps15
  go_wp2_with fail
  refine HCON.out.mono ?_
  rintro e w1 ⟨v1, rfl, ho, hb⟩
  obtain ⟨q, c, hq⟩ := OwnQ.form ho
  rw [← HVN.out] at hq
  subst hq
  have HO := hidW (show OwnQ w1 w.heap.size (.slice q vn c) os from ⟨ho.1, by
    rcases ho.2 with h | ⟨g, off, cap, cur, h1, h2, h3⟩
    · exact .inl h
    · exact .inr ⟨g, off, cap, cur, h1, by simp at h2; omega, h3⟩⟩)
  have HB := hidW (hB.trans (hb.mono (by simp)))
  clear ho hb hB hc
  go_wp2_with fail
  go_ret
  exact ⟨q, c, rfl, HO.out, HB.out⟩

section
variable (a1 a2 a3 a4 a5 a6 a7 a8 : Int) (b p : Nat) (v : Value) (os : List O) (w : World)

theorem put_bad1 (h : ¬ chk ⟨a1, a2, a3, a4, a5, a6, a7, a8⟩ = 0) :
    Calls Tryd.prog 7 #[.pointer (some ⟨p, 0, none⟩), .agg #[.int .i64 a1, .int .i64 a2, .int .i64 a3, .int .i64 a4, .int .i64 a5, .int .i64 a6, .int .i64 a7, .int .i64 a8]] w fun e w' => e = .returned (errV (chk ⟨a1, a2, a3, a4, a5, a6, a7, a8⟩)) ∧ Below w.heap.size w w' := by
  have HC : Hid (∀ W, Calls Tryd.prog 18 #[.agg #[.int .i64 a1, .int .i64 a2, .int .i64 a3, .int .i64 a4, .int .i64 a5, .int .i64 a6, .int .i64 a7, .int .i64 a8]] W fun e w' => e = .returned (.iface 51 (.int .i64 (chk ⟨a1, a2, a3, a4, a5, a6, a7, a8⟩))) ∧ Below W.heap.size W w') := fun W => by
    have := check_any ⟨a1, a2, a3, a4, a5, a6, a7, a8⟩ W
    rwa [errV_of h] at this
  rw [errV_of h]
  generalize chk ⟨a1, a2, a3, a4, a5, a6, a7, a8⟩ = k at *
  go_enter Tryd.func7, Tryd.ntmps7
  go_wp2_with fail
  refine (HC.out _).mono ?_
  rintro x w1 ⟨rfl, hb1⟩
  have hB : Below w.heap.size w w1 := ((Below.refl _ _).alloc (Nat.le_refl _) _).trans (hb1.mono (by simp))
  clear hb1
  go_wp2_with fail
  go_ret
  exact ⟨rfl, hB⟩

theorem put_bad2 (h : chk ⟨a1, a2, a3, a4, a5, a6, a7, 0⟩ = 0) :
    Calls Tryd.prog 7 #[.pointer (some ⟨p, 0, none⟩), .agg #[.int .i64 a1, .int .i64 a2, .int .i64 a3, .int .i64 a4, .int .i64 a5, .int .i64 a6, .int .i64 a7, .int .i64 0]] w fun e w' => e = .returned (errV 6) ∧ Below w.heap.size w w' := by
  have HC : Hid (∀ W, Calls Tryd.prog 18 #[.agg #[.int .i64 a1, .int .i64 a2, .int .i64 a3, .int .i64 a4, .int .i64 a5, .int .i64 a6, .int .i64 a7, .int .i64 0]] W fun e w' => e = .returned .nilIface ∧ Below W.heap.size W w') := fun W => by
    have := check_any ⟨a1, a2, a3, a4, a5, a6, a7, 0⟩ W
    rwa [h, errV_zero] at this
  clear h
  go_enter Tryd.func7, Tryd.ntmps7
  go_wp2_with fail
  refine (HC.out _).mono ?_
  rintro x w1 ⟨rfl, hb1⟩
  have hB : Below w.heap.size w w1 := ((Below.refl _ _).alloc (Nat.le_refl _) _).trans (hb1.mono (by simp))
  obtain ⟨hc1, hf1⟩ := bcell hb1
  clear hb1
  go_wp2_with fail
  go_ret
  exact ⟨rfl, hB⟩

set_option maxHeartbeats 1000000 in
theorem put_bad3 (h : chk ⟨a1, a2, a3, a4, a5, a6, a7, a8⟩ = 0) (h8 : ¬ a8 = 0) (hs : St w b p v os) (hi : 0 ≤ idx a1 os) :
    Calls Tryd.prog 7 #[.pointer (some ⟨p, 0, none⟩), .agg #[.int .i64 a1, .int .i64 a2, .int .i64 a3, .int .i64 a4, .int .i64 a5, .int .i64 a6, .int .i64 a7, .int .i64 a8]] w fun e w' => e = .returned (errV 7) ∧ Below w.heap.size w w' := by
  have HC : Hid (∀ W, Calls Tryd.prog 18 #[.agg #[.int .i64 a1, .int .i64 a2, .int .i64 a3, .int .i64 a4, .int .i64 a5, .int .i64 a6, .int .i64 a7, .int .i64 a8]] W fun e w' => e = .returned .nilIface ∧ Below W.heap.size W w') := fun W => by
    have := check_any ⟨a1, a2, a3, a4, a5, a6, a7, a8⟩ W
    rwa [h, errV_zero] at this
  have HF : Hid (∀ W, Below w.heap.size w W → Calls Tryd.prog 19 #[.pointer (some ⟨p, 0, none⟩), .int .i64 a1] W fun e w' => e = .returned (.int .i64 (idx a1 os)) ∧ Below W.heap.size W w') := fun W hW => find_any a1 b p v os W (hs.below hW)
  have e8 : (a8 == 0) = false := by simpa using h8
  generalize idx a1 os = m at *
  clear h hs
  go_enter Tryd.func7, Tryd.ntmps7
  go_wp2_with fail
  refine (HC.out _).mono ?_
  rintro x w1 ⟨rfl, hb1⟩
  have hB : Below w.heap.size w w1 := ((Below.refl _ _).alloc (Nat.le_refl _) _).trans (hb1.mono (by simp))
  obtain ⟨hc1, hf1⟩ := bcell hb1
  clear hb1
  go_wp2_with fail
  refine (HF.out _ hB).mono ?_
  rintro x w2 ⟨rfl, hb2⟩
  have hB2 := hB.trans (hb2.mono hB.size)
  clear hb2 hB hc1 hf1
  go_wp2_with fail
  go_ret
  exact ⟨rfl, hB2⟩

set_option maxHeartbeats 1000000 in
theorem put_bad4 (q : Option Addr) (c : Nat) (h : chk ⟨a1, a2, a3, a4, a5, a6, a7, a8⟩ = 0) (h8 : ¬ a8 = 0) (hs : St w b p (.slice q 20 c) os) (hi : ¬ 0 ≤ idx a1 os) :
    Calls Tryd.prog 7 #[.pointer (some ⟨p, 0, none⟩), .agg #[.int .i64 a1, .int .i64 a2, .int .i64 a3, .int .i64 a4, .int .i64 a5, .int .i64 a6, .int .i64 a7, .int .i64 a8]] w fun e w' => e = .returned (errV 4) ∧ Below w.heap.size w w' := by
  have HC : Hid (∀ W, Calls Tryd.prog 18 #[.agg #[.int .i64 a1, .int .i64 a2, .int .i64 a3, .int .i64 a4, .int .i64 a5, .int .i64 a6, .int .i64 a7, .int .i64 a8]] W fun e w' => e = .returned .nilIface ∧ Below W.heap.size W w') := fun W => by
    have := check_any ⟨a1, a2, a3, a4, a5, a6, a7, a8⟩ W
    rwa [h, errV_zero] at this
  have HF : Hid (∀ W, Below w.heap.size w W → Calls Tryd.prog 19 #[.pointer (some ⟨p, 0, none⟩), .int .i64 a1] W fun e w' => e = .returned (.int .i64 (idx a1 os)) ∧ Below W.heap.size W w') := fun W hW => find_any a1 b p _ os W (hs.below hW)
  have e8 : (a8 == 0) = false := by simpa using h8
  have HCL := hidW hs.cell
  generalize idx a1 os = m at *
  clear h hs
  go_enter Tryd.func7, Tryd.ntmps7
  go_wp2_with fail
  refine (HC.out _).mono ?_
  rintro x w1 ⟨rfl, hb1⟩
  have hB : Below w.heap.size w w1 := ((Below.refl _ _).alloc (Nat.le_refl _) _).trans (hb1.mono (by simp))
  obtain ⟨hc1, hf1⟩ := bcell hb1
  clear hb1
  go_wp2_with fail
  refine (HF.out _ hB).mono ?_
  rintro x w2 ⟨rfl, hb2⟩
  have hB2 := hB.trans (hb2.mono hB.size)
  have hcl := keeps hB2 HCL.out
  clear hb2 hB hc1 hf1
  go_wp2_with fail
  go_ret
  exact ⟨rfl, hB2⟩

/-- What Put leaves. -/
def PutOk (b p : Nat) (v : Value) (L : List O) (w w' : World) : Prop := ∃ v', St w' b p v' L ∧ Trn w w' p v ∧ Frs w v v'

set_option maxRecDepth 100000 in
set_option maxHeartbeats 2000000 in
theorem put_ok (q : Option Addr) (n c : Nat) (hn : n = os.length) (h : chk ⟨a1, a2, a3, a4, a5, a6, a7, a8⟩ = 0) (h8 : ¬ a8 = 0) (hs : St w b p (.slice q n c) os) (hi : ¬ 0 ≤ idx a1 os) (hl : n < 20) :
    Calls Tryd.prog 7 #[.pointer (some ⟨p, 0, none⟩), .agg #[.int .i64 a1, .int .i64 a2, .int .i64 a3, .int .i64 a4, .int .i64 a5, .int .i64 a6, .int .i64 a7, .int .i64 a8]] w fun e w' => e = .returned .nilIface ∧ PutOk b p (.slice q n c) (os ++ [⟨a1, a2, a3, a4, a5, a6, a7, a8⟩]) w w' := by
  have HC : Hid (∀ W, Calls Tryd.prog 18 #[.agg #[.int .i64 a1, .int .i64 a2, .int .i64 a3, .int .i64 a4, .int .i64 a5, .int .i64 a6, .int .i64 a7, .int .i64 a8]] W fun e w' => e = .returned .nilIface ∧ Below W.heap.size W w') := fun W => by
    have := check_any ⟨a1, a2, a3, a4, a5, a6, a7, a8⟩ W
    rwa [h, errV_zero] at this
  have HF : Hid (∀ W, Below w.heap.size w W → Calls Tryd.prog 19 #[.pointer (some ⟨p, 0, none⟩), .int .i64 a1] W fun e w' => e = .returned (.int .i64 (idx a1 os)) ∧ Below W.heap.size W w') := fun W hW => find_any a1 b p _ os W (hs.below hW)
  have e8 : (a8 == 0) = false := by simpa using h8
  have e20 : ((n : Int) == 20) = false := by simp; omega
  have e21 : ¬ (n : Int) = 20 := by omega
  have HS := hidW hs
  have HN := hidW (show n = os.length ∧ n < 20 from ⟨hn, hl⟩)
  obtain ⟨i0, hi0, hz0, hz1, hz2⟩ := infoR'
  have HI := hidW hi0
  -- what the last region leaves
  have HPX : Hid (∀ W w' v', Below w.heap.size w W → OwnM w' b 29 8 v' (n + 1) (flat os ++ [.int .i64 a1, .int .i64 a2, .int .i64 a3, .int .i64 a4, .int .i64 a5, .int .i64 a6, .int .i64 a7, .int .i64 a8]) → W.grownBy w' (Value.slice q n c).ownBlock → (v'.ownBlock = (Value.slice q n c).ownBlock ∨ v'.ownBlock = some W.heap.size) →
      (w'.cell? ⟨p, 0, none⟩ = some (.slice q n c) ∧ w'.frozen? ⟨p, 0, none⟩ = false) ∧ PutOk b p (.slice q n c) (os ++ [⟨a1, a2, a3, a4, a5, a6, a7, a8⟩]) w (w'.setCell ⟨p, 0, none⟩ v')) := fun W w' v' hW hO hg ha => by
    have hSW := HS.out.below hW
    have hne : some p ≠ (Value.slice q n c).ownBlock := fun e => by
      rcases HS.out.own.2 with ⟨h1, _⟩ | ⟨g, off, cap, cur, h1, h2, h3, _⟩
      · rw [h1] at e; cases e
      · rw [h1] at e
        simp only [Value.ownBlock, Option.some.injEq] at e
        have h4 := HS.out.blk
        rw [e, h3] at h4
        simp only [Option.some.injEq, Obj.cells.injEq] at h4
        exact absurd h4.2.1 (by decide)
    have hrow : w'.heap[p]? = some (.cells #[.slice q n c] 49 (0, 0)) := (hg.block p hSW.lt hne).trans hSW.blk
    refine ⟨⟨by simp [World.cell?, hrow], by simp [World.frozen?, hrow]⟩, v', ⟨?_, HS.out.le, ?_⟩, ⟨?_, ?_, ?_, ?_, ?_⟩, ?_⟩
    · rw [setCell_eq_setRow w' p 0 _ _ _ v' hrow, setRow_heap w' p _ _ _ _ hrow]; rfl
    · have hlp : (Value.ownBlock v') ≠ some p := fun e => by
        rcases hO.2 with ⟨h1, _⟩ | ⟨g, off, cap, cur, h1, h2, h3, _⟩
        · rw [h1] at e; cases e
        · rw [h1] at e
          simp only [Value.ownBlock, Option.some.injEq] at e
          rw [e, hrow] at h3
          simp only [Option.some.injEq, Obj.cells.injEq] at h3
          exact absurd h3.2.1 (by decide)
      have hO2 := OwnM.kept hO (gr_setCell w' p 0 v') (.inr hlp)
      show OwnM _ _ _ _ _ _ _
      rw [List.length_append, flat_append, show ([⟨a1, a2, a3, a4, a5, a6, a7, a8⟩] : List O).length = 1 from rfl, ← HN.out.1]
      exact hO2
    · exact hg.os.trans hW.os
    · exact hg.tape.trans hW.tape
    · exact hg.output.trans hW.output
    · have h1 := hg.size; have h2 := hW.size; simp [World.setCell]; omega
    · intro k hk hkp hkv
      rw [Below.heap_setCell _ _ _ _ (show k ≠ p from hkp), hg.block k (Nat.lt_of_lt_of_le hk hW.size) (fun e => hkv e.symm), hW.block k hk]
    · rcases ha with e | e
      · exact .inl e
      · exact .inr fun k hk => by rw [e] at hk; cases hk; exact hW.size
  have HCL := hidW hs.cell
  generalize idx a1 os = m at *
  clear h hs hn hl hi0
  go_enter Tryd.func7, Tryd.ntmps7
  go_wp2_with fail
  refine (HC.out _).mono ?_
  rintro x w1 ⟨rfl, hb1⟩
  have hB : Below w.heap.size w w1 := ((Below.refl _ _).alloc (Nat.le_refl _) _).trans (hb1.mono (by simp))
  have hR1 : w1.heap[w.heap.size]? = some (.cells #[.int .i64 a1, .int .i64 a2, .int .i64 a3, .int .i64 a4, .int .i64 a5, .int .i64 a6, .int .i64 a7, .int .i64 a8] 29 (0, 0)) := (hb1.block _ (by simp)).trans (heap_alloc_new w _)
  obtain ⟨hc1, hf1⟩ := bcell hb1
  clear hb1
  go_wp2_with fail
  refine (HF.out _ hB).mono ?_
  rintro x w2 ⟨rfl, hb2⟩
  have HB2 := hidW (hB.trans (hb2.mono hB.size))
  have hcl := keeps HB2.out HCL.out
  have hR2 : w2.heap[w.heap.size]? = some (.cells #[.int .i64 a1, .int .i64 a2, .int .i64 a3, .int .i64 a4, .int .i64 a5, .int .i64 a6, .int .i64 a7, .int .i64 a8] 29 (0, 0)) := (hb2.block _ (Array.getElem?_eq_some_iff.1 hR1).1).trans hR1
  have cel : ∀ i, w2.cell? ⟨w.heap.size, i, none⟩ = (#[.int .i64 a1, .int .i64 a2, .int .i64 a3, .int .i64 a4, .int .i64 a5, .int .i64 a6, .int .i64 a7, .int .i64 a8] : Array Value)[i]? := fun i => by simp [World.cell?, hR2]
  have t0 := cel 0
  have t1 := cel 1
  have t2 := cel 2
  have t3 := cel 3
  have t4 := cel 4
  have t5 := cel 5
  have t6 := cel 6
  have t7 := cel 7
  simp only [List.getElem?_toArray, List.getElem?_cons_zero, List.getElem?_cons_succ] at t0 t1 t2 t3 t4 t5 t6 t7
  have HO2 : Hid (OwnM w2 b 29 8 (.slice q n c) n (flat os)) := by
    have := (HS.out.below HB2.out).own
    rwa [OwnQ, ← HN.out.1] at this
  have hbs : b ≤ w2.heap.size := by have h1 := HS.out.lt; have h2 := HS.out.le; have h3 := HB2.out.size; omega
  have hn1 : n + 1 ≤ 20 := HN.out.2
  have hpl : p < w2.heap.size := Nat.lt_of_lt_of_le HS.out.lt HB2.out.size
  have hwl : w.heap.size < w2.heap.size := (Array.getElem?_eq_some_iff.1 hR2).1
  have HR3 : Hid (∀ W, Below w2.heap.size w2 W → Below w.heap.size w W) := fun W hW => HB2.out.trans (hW.mono HB2.out.size)
  clear hb2 hB hc1 hf1 cel hR1 hR2
  go_upto_region 10 with fail
  go_region_law (refine step_append_mid _ rfl _ _ 22 rfl b 29 i0 zeroR 8 64 Tryd.underlying22 HI.out hz0 hz1 hz2 rfl (.slice q n c) n (flat os) rfl (OwnM.below HO2.out (by (repeat' (first | with_reducible assumption | with_reducible refine bal ?_ _ | with_reducible refine Below.drew ?_ | with_reducible exact Below.refl _ _)))) _ 1 1 [.int .i64 a1, .int .i64 a2, .int .i64 a3, .int .i64 a4, .int .i64 a5, .int .i64 a6, .int .i64 a7, .int .i64 a8] rfl rfl (World.news_of_block (cs := #[.int .i64 a1, .int .i64 a2, .int .i64 a3, .int .i64 a4, .int .i64 a5, .int .i64 a6, .int .i64 a7, .int .i64 a8]) (heap_alloc_new _ _)) (by simp [Value.oneCell']) (by unfold maxLen; omega) (by omega) (Nat.le_trans hbs (Below.size (w := w2) (B := w2.heap.size) (by (repeat' (first | with_reducible assumption | with_reducible refine bal ?_ _ | with_reducible refine Below.drew ?_ | with_reducible exact Below.refl _ _))))) ?_; intro v' w' hO' hgr hat; obtain ⟨⟨hS2, hS3⟩, hPX⟩ := HPX.out _ _ _ (HR3.out _ (by (repeat' (first | with_reducible assumption | with_reducible refine bal ?_ _ | with_reducible refine Below.drew ?_ | with_reducible exact Below.refl _ _)))) hO' hgr hat; obtain ⟨q', c', rfl⟩ := OwnM.form hO')
  all_goals
    go_wp2_with fail
    go_ret
    exact ⟨rfl, hPX⟩
end

/-- Put, at every order. -/
theorem put_any (o : O) (b p : Nat) (v : Value) (os : List O) (w : World) (hs : St w b p v os) (hl : os.length ≤ 20) :
    Calls Tryd.prog 7 #[.pointer (some ⟨p, 0, none⟩), oV o] w fun e w' => e = .returned (errV (putE os o)) ∧ PutOk b p v (putL os o) w w' := by
  obtain ⟨a1, a2, a3, a4, a5, a6, a7, a8⟩ := o
  have hno : ∀ w', Below w.heap.size w w' → PutOk b p v os w w' := fun w' hb => ⟨v, hs.below hb, Trn.of_below hb, .inl rfl⟩
  by_cases h : chk ⟨a1, a2, a3, a4, a5, a6, a7, a8⟩ = 0
  rotate_left
  · have e : putE os ⟨a1, a2, a3, a4, a5, a6, a7, a8⟩ = chk ⟨a1, a2, a3, a4, a5, a6, a7, a8⟩ := by unfold putE; rw [if_neg h]
    rw [putL, e, if_neg h]
    exact (put_bad1 a1 a2 a3 a4 a5 a6 a7 a8 p w h).mono fun x w' hx => ⟨hx.1, hno _ hx.2⟩
  by_cases h8 : a8 = 0
  · subst h8
    have e : putE os ⟨a1, a2, a3, a4, a5, a6, a7, 0⟩ = 6 := by unfold putE; rw [if_pos h, if_pos rfl]
    rw [putL, e, if_neg (by decide)]
    exact (put_bad2 a1 a2 a3 a4 a5 a6 a7 p w h).mono fun x w' hx => ⟨hx.1, hno _ hx.2⟩
  by_cases hi : 0 ≤ idx a1 os
  · have e : putE os ⟨a1, a2, a3, a4, a5, a6, a7, a8⟩ = 7 := by unfold putE; rw [if_pos h, if_neg h8, if_pos hi]
    rw [putL, e, if_neg (by decide)]
    exact (put_bad3 a1 a2 a3 a4 a5 a6 a7 a8 b p v os w h h8 hs hi).mono fun x w' hx => ⟨hx.1, hno _ hx.2⟩
  obtain ⟨q, c, rfl⟩ := OwnQ.form hs.own
  by_cases h20 : os.length = 20
  · have e : putE os ⟨a1, a2, a3, a4, a5, a6, a7, a8⟩ = 4 := by unfold putE; rw [if_pos h, if_neg h8, if_neg hi, if_pos h20]
    rw [putL, e, if_neg (by decide)]
    have hs2 := hs
    rw [h20] at hs2
    exact (put_bad4 a1 a2 a3 a4 a5 a6 a7 a8 b p os w q c h h8 hs2 hi).mono fun x w' hx => ⟨hx.1, hno _ hx.2⟩
  · have e : putE os ⟨a1, a2, a3, a4, a5, a6, a7, a8⟩ = 0 := by unfold putE; rw [if_pos h, if_neg h8, if_neg hi, if_neg h20]
    rw [putL, e, if_pos rfl]
    exact put_ok a1 a2 a3 a4 a5 a6 a7 a8 b p os w q _ c rfl h h8 hs hi (by omega)
end Go.Proofs.YtcfeailakljpnaaDoor.wak
