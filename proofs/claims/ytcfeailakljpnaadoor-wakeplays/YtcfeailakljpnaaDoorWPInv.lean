/- What a walk of WakePlays keeps: the Stops, and the document's list, hold the same orders, in memory apart. -/
import Derived.Test.YtcfeailakljpnaaDoorWWPure
import Derived.Test.YtcfeailakljpnaaDoorWakSame
import Derived.Test.YtcfeailakljpnaaDoorTold
namespace Go.Proofs.YtcfeailakljpnaaDoor.wak
open Go.RowKit Go.Proofs.YtcfeailakljpnaaDoor.ord
open Go.Proofs.YtcfeailakljpnaaDoor.spn (keeps bcell)

structure PI (w0 W : World) (p : Nat) (v m : Value) (os : List O) : Prop where
  st : St W p p v os
  own : OwnQ W p m os
  ap : ∀ k, m.ownBlock = some k → v.ownBlock ≠ some k
  good : Good os
  bel : Below w0.heap.size w0 W
  le : w0.heap.size ≤ p

theorem PI.below {w0 W W' : World} {p : Nat} {v m : Value} {os : List O} (h : PI w0 W p v m os) (hB : Below W.heap.size W W') : PI w0 W' p v m os :=
  ⟨h.st.below hB, OwnM.below h.own hB, h.ap, h.good, h.bel.trans (hB.mono h.bel.size), h.le⟩
/-- A block of orders is not the Stops' own. -/
theorem own_no {W : World} {b b' p : Nat} {v m : Value} {os ys : List O} (h : OwnQ W b m ys) (hs : St W b' p v os) : m.ownBlock ≠ some p := fun e => by
  rcases h.2 with ⟨h1, _⟩ | ⟨g, off, cap, cur, h1, h2, h3, _⟩
  · rw [h1] at e; cases e
  · rw [h1] at e
    have hg : g = p := Option.some.inj e
    rw [hg, hs.blk] at h3
    simp only [Option.some.injEq, Obj.cells.injEq] at h3
    exact absurd h3.2.1 (by decide)
theorem own_trn {W W' : World} {b b' p : Nat} {v m : Value} {os ys : List O} (h : OwnQ W b m ys) (hs : St W b' p v os) (ht : Trn W W' p v) (ha : ∀ k, m.ownBlock = some k → v.ownBlock ≠ some k) : OwnQ W' b m ys := by
  have hp := own_no h hs
  refine ⟨h.1, ?_⟩
  rcases h.2 with hn | ⟨g, off, cap, cur, h1, h2, h3, h4⟩
  · exact .inl hn
  · refine .inr ⟨g, off, cap, cur, h1, h2, ?_, h4⟩
    have hg : m.ownBlock = some g := by rw [h1]; rfl
    rw [ht.block g (Array.getElem?_eq_some_iff.1 h3).1 (fun e => hp (by rw [hg, e])) (ha g hg)]
    exact h3
theorem PI.trn {w0 W W' : World} {p : Nat} {v m : Value} {os : List O} (h : PI w0 W p v m os) (ht : Trn W W' p v) : Below w0.heap.size w0 W' :=
  h.bel.trans ((ht.below h.st).mono h.le)

theorem PI.put {w0 W2 W3 W4 : World} {p : Nat} {v : Value} {q : Option Addr} {n c : Nat} {q' : Option Addr} {n' c' : Nat} {os : List O} {o : O} (h : PI w0 W2 p v (.slice q n c) os) (hB : Below W2.heap.size W2 W3)
    (hm : (¬ putE os o = 0 ∧ Value.slice q' n' c' = .slice q n c) ∨ (putE os o = 0 ∧ n' = n + 1 ∧ OwnQ W3 W2.heap.size (.slice q' n' c') (os ++ [o]))) (hp : PutOk p p v (putL os o) W3 W4) :
    ∃ v', PI w0 W4 p v' (.slice q' n' c') (putL os o) := by
  obtain ⟨v', hs4, ht, hf⟩ := hp
  have h3 := h.below hB
  have hlt : ∀ k, v.ownBlock = some k → k < W2.heap.size := fun k hk => (OwnM.lt h.st.own k hk).2
  rcases hm with ⟨h0, e⟩ | ⟨h0, e, hO⟩
  · rw [e]
    have hL : putL os o = os := by unfold putL; rw [if_neg h0]
    rw [hL] at hs4 ⊢
    refine ⟨v', hs4, own_trn h3.own h3.st ht h.ap, fun k hk e2 => ?_, h.good, h3.trn ht, h.le⟩
    rcases hf with hf | hf
    · rw [hf] at e2; exact h.ap k hk e2
    · have h1 := hf k e2
      have h2 := (OwnM.lt h3.own k hk).2
      omega
  · have hL : putL os o = os ++ [o] := by unfold putL; rw [if_pos h0]
    have hG := good_put h.good o
    rw [hL] at hs4 hG ⊢
    have hap : ∀ k, (Value.slice q' n' c').ownBlock = some k → v.ownBlock ≠ some k := fun k hk e2 => by
      have h1 := (OwnM.lt hO k hk).1
      have h2 := hlt k e2
      omega
    have hpl : p ≤ W2.heap.size := Nat.le_of_lt h.st.lt
    refine ⟨v', hs4, OwnM.mono (own_trn hO h3.st ht hap) hpl, fun k hk e2 => ?_, hG, h3.trn ht, h.le⟩
    rcases hf with hf | hf
    · rw [hf] at e2; exact hap k hk e2
    · have h1 := hf k e2
      have h2 := (OwnM.lt hO k hk).2
      omega
theorem PI.drop {w0 W2 W3 W4 : World} {p : Nat} {v m m' : Value} {os : List O} {i : Nat} (h : PI w0 W2 p v m os) (hB : Below W2.heap.size W2 W3) (hO : OwnQ W3 W2.heap.size m' (wo os i)) (hp : DropOk p p v (wo os i) W3 W4) :
    ∃ v', PI w0 W4 p v' m' (wo os i) := by
  obtain ⟨v', hs4, ht, hf⟩ := hp
  have h3 := h.below hB
  have hap : ∀ k, m'.ownBlock = some k → v.ownBlock ≠ some k := fun k hk e2 => by
    have h1 := (OwnM.lt hO k hk).1
    have h2 := (OwnM.lt h.st.own k e2).2
    omega
  exact ⟨v', hs4, OwnM.mono (own_trn hO h3.st ht hap) (Nat.le_of_lt h.st.lt), fun k hk e2 => hap k hk (by rw [hf] at e2; exact e2), wo_good i h.good, h3.trn ht, h.le⟩
theorem own_gp {W W' : World} {b b' p : Nat} {v m : Value} {os ys : List O} (h : OwnQ W b m ys) (hs : St W b' p v os) (hg : W.grownBy W' (some p)) : OwnQ W' b m ys := OwnM.kept h hg (.inr (own_no h hs))
/-- Waking, both. -/
theorem PI.wake {w0 W2 W3 W4 : World} {p : Nat} {x : Int} {v v2 m got want : Value} {q : Option Addr} {n c : Nat} {os : List O} (h : PI w0 W2 p v m os) (hB : Below W2.heap.size W2 W3)
    (hm : (Value.slice q n c = m ∧ left x os = os) ∨ OwnQ W3 W2.heap.size (.slice q n c) (left x os)) (hw : OwnQ W3 W2.heap.size want (woke x os))
    (hgot : OwnQ W4 W3.heap.size got (woke x os)) (hs4 : St W4 p p v2 (left x os)) (hg : W3.grownBy W4 (some p)) (hf : ∀ k, v2.ownBlock = some k → W3.heap.size ≤ k) :
    PI w0 W4 p v2 (.slice q n c) (left x os) ∧ SL W4 got (woke x os) ∧ SL W4 want (woke x os) := by
  have h3 := h.below hB
  have hpl : p ≤ W2.heap.size := Nat.le_of_lt h.st.lt
  have hO3 : OwnQ W3 p (.slice q n c) (left x os) := by
    rcases hm with ⟨e, e2⟩ | hm
    · rw [e, e2]; exact h3.own
    · exact OwnM.mono hm hpl
  refine ⟨⟨hs4, own_gp hO3 h3.st hg, fun k hk e2 => ?_, left_good h.good, ?_, h.le⟩, hgot.sl, OwnQ.sl (own_gp hw h3.st hg)⟩
  · have h1 := hf k e2
    have h2 := (OwnM.lt hO3 k hk).2
    omega
  · refine h3.bel.trans ⟨hg.os, hg.tape, hg.output, hg.size, fun k hk => hg.block k (Nat.lt_of_lt_of_le hk h3.bel.size) (fun e => by cases e; have := h.le; omega)⟩

/-- pitsame.Error of an error and its own number. -/
theorem err_same {w0 : World} (hL : told.Laid w0) (k : Int) (W : World) (hB : Below w0.heap.size w0 W) : Calls Tryd.prog 6 #[errV k, .int .i64 k] W fun e w' => e = .returned (.bool true) ∧ Below W.heap.size W w' := by
  have := told.error_any W k k W (told.Inv.start (hL.below hB))
  refine Calls.mono this ?_
  rintro e w' ⟨rfl, h⟩
  refine ⟨?_, h.2⟩
  rw [beq_self_eq_true]
end Go.Proofs.YtcfeailakljpnaaDoor.wak
