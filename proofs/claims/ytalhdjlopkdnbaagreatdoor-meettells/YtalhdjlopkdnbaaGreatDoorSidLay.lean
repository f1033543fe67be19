/- Plain facts: levels laid behind one another into memory of the call's own, by append. No walk. -/
import Derived.Test.YtalhdjlopkdnbaaGreatDoorSidRef7
namespace Go.Proofs.YtalhdjlopkdnbaaGreatDoor.sid
open Go.RowKit Go.Proofs.YtalhdjlopkdnbaaGreatDoor.spn Go.Proofs.YtalhdjlopkdnbaaGreatDoor.que
open Go.Proofs.YtalhdjlopkdnbaaGreatDoor.tickP (priceB sideB betOk betR)

theorem putL_skip {s p : Int} {r : R} : ∀ (k : Nat) (ls : List L), k ≤ ls.length → (∀ j, j < k → leadB s ls[j]!.price p = true) → putL s p r ls = ls.take k ++ putL s p r (ls.drop k) := by
  intro k
  induction k with
  | zero => intro ls _ _; simp
  | succ k ih =>
    intro ls hk h
    cases ls with
    | nil => simp at hk
    | cons l t =>
      have h0 := h 0 (by omega)
      simp only [List.getElem!_cons_zero] at h0
      have e := ih t (by simpa using hk) (fun j hj => by have := h (j + 1) (by omega); simpa using this)
      rw [putL, if_pos h0, e]
      simp
theorem putL_end {s p : Int} {r : R} {ls : List L} (h : ∀ j, j < ls.length → leadB s ls[j]!.price p = true) : putL s p r ls = ls ++ [⟨p, [r]⟩] := by
  rw [putL_skip ls.length ls (Nat.le_refl _) h]; simp [putL]
theorem putL_same {s p : Int} {r : R} {ls : List L} {k : Nat} (hk : k < ls.length) (h : ∀ j, j < k → leadB s ls[j]!.price p = true) (hn : leadB s ls[k]!.price p = false) (he : ls[k]!.price = p) : putL s p r ls = ls.take k ++ ⟨p, ls[k]!.rests ++ [r]⟩ :: ls.drop (k + 1) := by
  rw [putL_skip k ls (by omega) h, ldrop_at hk, putL, if_neg (by rw [hn]; decide), if_pos he]
theorem putL_new {s p : Int} {r : R} {ls : List L} {k : Nat} (hk : k < ls.length) (h : ∀ j, j < k → leadB s ls[j]!.price p = true) (hn : leadB s ls[k]!.price p = false) (he : ¬ ls[k]!.price = p) : putL s p r ls = ls.take k ++ ⟨p, [r]⟩ :: ls.drop k := by
  rw [putL_skip k ls (by omega) h, ldrop_at hk, putL, if_neg (by rw [hn]; decide), if_neg he]

theorem rown_nil (w : World) (base : Nat) : rlv.OwnQ w base (.slice none 0 0) [] := ⟨rfl, .inl ⟨rfl, rfl⟩⟩
theorem qown_nil (w : World) (base : Nat) : OwnQ w base (.slice none 0 0) [] := ⟨rfl, .inl ⟨rfl, rfl⟩⟩
theorem qone_sl (w : World) (a b c d e : Int) : SL (w.alloc (.cells #[.int .i64 a, .int .i64 b, .int .i64 c, .int .i64 d, .int .i64 e] 26)) (.slice (some ⟨w.heap.size, 0, none⟩) 1 1) [⟨a, b, c, d, e⟩] := by
  refine .inr ⟨w.heap.size, 0, 1, rfl, by simp, by decide, by simp, flat_lies ?_⟩
  intro j u hu
  rw [Nat.zero_add, World.cell?_alloc_at _ _ _ _ rfl]
  simpa [flat, rV] using hu

abbrev appR : Value → Value → World → Value → World → Prop := fun v x w v' w' => (Builtin.append_ #[32, 32] 32 #[v, x]).run Tryz.prog w = .ok v' w'
abbrev appL : Value → Value → World → Value → World → Prop := fun v x w v' w' => (Builtin.append_ #[22, 22] 22 #[v, x]).run Tryz.prog w = .ok v' w'

/-- The first ones. -/
theorem lay_first (W : World) (x : Value) (zs : List rlv.RL) (hx : rlv.SL W x zs) (hl : zs.length ≤ 100) : ∃ v1 w1, appL (.slice none 0 0) x W v1 w1 ∧ rlv.OwnQ w1 W.heap.size v1 zs ∧ Below W.heap.size W w1 := by
  obtain ⟨v1, w1, h1, h2, h3, -⟩ := rlv.run_append_r W W.heap.size (.slice none 0 0) x [] zs (rown_nil _ _) hx (by simp; omega) (Nat.le_refl _)
  exact ⟨v1, w1, h1, h2, (Below.refl _ _).grown h3 (Nat.le_refl _) (fun k hk => by simp [Value.ownBlock] at hk)⟩
/-- Rests, and one more behind them. -/
theorem lay_rests (W : World) (x : Value) (zs : List R) (hx : SL W x zs) (hl : zs.length ≤ 100) : ∃ v1 w1, appR (.slice none 0 0) x W v1 w1 ∧ OwnQ w1 W.heap.size v1 zs ∧ Below W.heap.size W w1 := by
  obtain ⟨v1, w1, h1, h2, h3, -⟩ := run_append_q W W.heap.size (.slice none 0 0) x [] zs (qown_nil _ _) hx (by simp; omega) (Nat.le_refl _)
  exact ⟨v1, w1, h1, h2, (Below.refl _ _).grown h3 (Nat.le_refl _) (fun k hk => by simp [Value.ownBlock] at hk)⟩
theorem lay_rest (B : Nat) (W : World) (v : Value) (zs : List R) (a b c d e : Int) (hv : OwnQ W B v zs) (hB : B ≤ W.heap.size) (hl : zs.length ≤ 100) : ∃ q m cc w1, appR v (.slice (some ⟨W.heap.size, 0, none⟩) 1 1) (W.alloc (.cells #[.int .i64 a, .int .i64 b, .int .i64 c, .int .i64 d, .int .i64 e] 26)) (.slice q m cc) w1 ∧ OwnQ w1 B (.slice q m cc) (zs ++ [⟨a, b, c, d, e⟩]) ∧ Below B W w1 := by
  have hBb : Below W.heap.size W (W.alloc (.cells #[.int .i64 a, .int .i64 b, .int .i64 c, .int .i64 d, .int .i64 e] 26)) := (Below.refl _ _).alloc (Nat.le_refl _) _
  obtain ⟨v1, w1, h1, h2, h3, -⟩ := run_append_q _ B v (.slice (some ⟨W.heap.size, 0, none⟩) 1 1) zs [⟨a, b, c, d, e⟩] (OwnM.below hv hBb) (qone_sl W a b c d e) (by simp; omega) (by simp; omega)
  obtain ⟨q, cc, hf⟩ := OwnM.form h2
  subst hf
  exact ⟨q, _, cc, w1, h1, h2, (hBb.mono hB).grown h3 (by simp; omega) (fun k hk => (OwnM.lt hv k hk).1)⟩

/-- What is laid reads xa levels. -/
theorem laid_ls {W w5 : World} {base : Nat} {v5 : Value} {xa xb : List RP} {x : RP} (ha : ∀ p ∈ xa, SLe W (sv p.1) p.2) (hb : ∀ p ∈ xb, SLe W (sv p.1) p.2) (hx : SLe w5 (sv x.1) x.2) (hB : Below W.heap.size W w5)
    (ho : rlv.OwnQ w5 base v5 (xa.map (·.1) ++ x.1 :: xb.map (·.1))) : LS w5 v5 (xa.map toL ++ toL x :: xb.map toL) := by
  have h : Loose w5 v5 (xa ++ x :: xb) := by
    refine ⟨?_, fun p hp => ?_⟩
    · rw [List.map_append, List.map_cons]; exact rlv.OwnQ.sl ho
    · rcases List.mem_append.1 hp with hp | hp
      · exact (ha p hp).below hB
      · rcases List.mem_cons.1 hp with rfl | hp
        · exact hx
        · exact (hb p hp).below hB
  have := h.ls
  rwa [List.map_append, List.map_cons] at this
theorem laid_ls2 {W w5 : World} {base : Nat} {v5 : Value} {xa xb : List RP} (ha : ∀ p ∈ xa, SLe W (sv p.1) p.2) (hb : ∀ p ∈ xb, SLe W (sv p.1) p.2) (hB : Below W.heap.size W w5)
    (ho : rlv.OwnQ w5 base v5 (xa.map (·.1) ++ xb.map (·.1))) : LS w5 v5 (xa.map toL ++ xb.map toL) := by
  have h : Loose w5 v5 (xa ++ xb) := by
    refine ⟨?_, fun p hp => ?_⟩
    · rw [List.map_append]; exact rlv.OwnQ.sl ho
    · rcases List.mem_append.1 hp with hp | hp
      · exact (ha p hp).below hB
      · exact (hb p hp).below hB
  have := h.ls
  rwa [List.map_append] at this

/-- A level behind the first ones, and the last ones behind it. -/
theorem lay_last (W w1 w3 : World) (v1 x5 : Value) (xa xb : List RP) (p : Int) (q : Option Addr) (m cc : Nat) (zs : List R) (hB1 : Below W.heap.size W w1) (O1 : rlv.OwnQ w1 W.heap.size v1 (xa.map (·.1))) (hB3 : Below w1.heap.size w1 w3) (O3 : OwnQ w3 w1.heap.size (.slice q m cc) zs)
    (hx : rlv.SL W x5 (xb.map (·.1))) (ha : ∀ p ∈ xa, SLe W (sv p.1) p.2) (hb : ∀ p ∈ xb, SLe W (sv p.1) p.2) (hl : xa.length + xb.length ≤ 100) :
    ∃ v4 w4 v5 w5, appL v1 (.slice (some ⟨w3.heap.size, 0, none⟩) 1 1) (w3.alloc (.cells #[.int .i64 p, .slice q m cc] 34)) v4 w4 ∧ appL v4 x5 w4 v5 w5 ∧ LS w5 v5 (xa.map toL ++ ⟨p, zs⟩ :: xb.map toL) ∧ Below W.heap.size W w5 := by
  have hB3a : Below w3.heap.size w3 (w3.alloc (.cells #[.int .i64 p, .slice q m cc] 34)) := (Below.refl _ _).alloc (Nat.le_refl _) _
  have hs1 := hB1.size
  have hs3 := hB3.size
  have hO1 : rlv.OwnQ (w3.alloc (.cells #[.int .i64 p, .slice q m cc] 34)) W.heap.size v1 (xa.map (·.1)) := OwnM.below (OwnM.below O1 hB3) hB3a
  obtain ⟨v4, w4, e1, o4, g4, b4⟩ := rlv.run_append_r _ W.heap.size v1 (.slice (some ⟨w3.heap.size, 0, none⟩) 1 1) (xa.map (·.1)) [⟨p, q, m, cc⟩] hO1 (rlv.one_sl w3 p q m cc) (by simp; omega) (by simp; omega)
  have hW3 : Below W.heap.size W w3 := hB1.trans (hB3.mono hs1)
  have hW3a := hW3.trans (hB3a.mono hW3.size)
  have hW4 : Below W.heap.size W w4 := hW3a.grown g4 hW3a.size (fun k hk => (OwnM.lt O1 k hk).1)
  obtain ⟨v5, w5, e2, o5, g5, b5⟩ := rlv.run_append_r w4 W.heap.size v4 x5 (xa.map (·.1) ++ [⟨p, q, m, cc⟩]) (xb.map (·.1)) o4 (hx.below hW4) (by simp; omega) hW4.size
  have hW5 : Below W.heap.size W w5 := hW4.grown g5 hW4.size (fun k hk => (OwnM.lt o4 k hk).1)
  have r3 : OwnQ (w3.alloc (.cells #[.int .i64 p, .slice q m cc] 34)) w1.heap.size (.slice q m cc) zs := OwnM.below O3 hB3a
  have r4 : OwnQ w4 w1.heap.size (.slice q m cc) zs := kept_of r3 g4 (fun z hz e => by
    have h1 := (OwnM.lt O3 z hz).1
    have h2 := (OwnM.lt O1 z e).2
    omega)
  have r5 : OwnQ w5 w1.heap.size (.slice q m cc) zs := kept_of r4 g5 (fun z hz e => by
    have h1 := (OwnM.lt O3 z hz).1
    have h3 := (OwnM.lt O3 z hz).2
    rcases b4 with b4 | b4
    · rw [b4] at e
      have h2 := (OwnM.lt O1 z e).2
      omega
    · rw [b4] at e
      simp at e
      omega)
  refine ⟨v4, w4, v5, w5, e1, e2, ?_, hW5⟩
  exact laid_ls (x := (⟨p, q, m, cc⟩, zs)) ha hb (.inl (OwnQ.sl r5)) hW5 (by rw [List.append_assoc] at o5; exact o5)
/-- The last ones behind the first ones. -/
theorem lay_rest2 (W w1 w3 : World) (v1 x5 : Value) (xa xb : List RP) (hB1 : Below W.heap.size W w1) (O1 : rlv.OwnQ w1 W.heap.size v1 (xa.map (·.1))) (hB3 : Below w1.heap.size w1 w3)
    (hx : rlv.SL W x5 (xb.map (·.1))) (ha : ∀ p ∈ xa, SLe W (sv p.1) p.2) (hb : ∀ p ∈ xb, SLe W (sv p.1) p.2) (hl : xa.length + xb.length ≤ 100) :
    ∃ v5 w5, appL v1 x5 w3 v5 w5 ∧ LS w5 v5 (xa.map toL ++ xb.map toL) ∧ Below W.heap.size W w5 := by
  have hs1 := hB1.size
  have hs3 := hB3.size
  have hW3 : Below W.heap.size W w3 := hB1.trans (hB3.mono hs1)
  have hO1 : rlv.OwnQ w3 W.heap.size v1 (xa.map (·.1)) := OwnM.below O1 hB3
  obtain ⟨v5, w5, e2, o5, g5, b5⟩ := rlv.run_append_r w3 W.heap.size v1 x5 (xa.map (·.1)) (xb.map (·.1)) hO1 (hx.below hW3) (by simp; omega) hW3.size
  have hW5 : Below W.heap.size W w5 := hW3.grown g5 hW3.size (fun k hk => (OwnM.lt O1 k hk).1)
  exact ⟨v5, w5, e2, laid_ls2 ha hb hW5 o5, hW5⟩
end Go.Proofs.YtalhdjlopkdnbaaGreatDoor.sid
