/- Contracts over this seat's translation: pitlaw2.named; the cells of trades. -/
import Derived.Test.YtigikpncccdkdaaCalFact
import Derived.Deep.MidRow
namespace Go.Proofs.Ytigikpncccdkdaa.cal
open Go.RowKit Go.Proofs.Ytigikpncccdkdaa.ord
open Go.Proofs.Ytigikpncccdkdaa.wak (Lies SL oL OwnM OwnQ flat getE own_range gr_setCells)

theorem there8 {w : World} {b : Nat} {z0 z1 z2 z3 z4 z5 z6 z7 : Value} {t : TypeId} (h : w.heap[b]? = some (.cells #[z0, z1, z2, z3, z4, z5, z6, z7] t (0, 0))) : w.there b 0 8 := by
  intro j hj
  have hc : w.cell? ⟨b, 0 + j, none⟩ = (#[z0, z1, z2, z3, z4, z5, z6, z7])[j]? := by rw [Nat.zero_add]; simp [World.cell?, h]
  have hf : w.frozen? ⟨b, 0 + j, none⟩ = false := by simp [World.frozen?, h]
  rw [hc, hf]
  have : j = 0 ∨ j = 1 ∨ j = 2 ∨ j = 3 ∨ j = 4 ∨ j = 5 ∨ j = 6 ∨ j = 7 := by omega
  rcases this with rfl | rfl | rfl | rfl | rfl | rfl | rfl | rfl <;> exact ⟨rfl, rfl⟩
theorem stored8 {w : World} {b : Nat} {z0 z1 z2 z3 z4 z5 z6 z7 : Value} {t : TypeId} (v0 v1 v2 v3 v4 v5 v6 v7 : Value) (h : w.heap[b]? = some (.cells #[z0, z1, z2, z3, z4, z5, z6, z7] t (0, 0))) :
    (w.setCells b 0 [v0, v1, v2, v3, v4, v5, v6, v7]).heap[b]? = some (.cells #[v0, v1, v2, v3, v4, v5, v6, v7] t (0, 0)) := by
  simp only [World.setCells]
  have h0 := heap_setCell_same w b 0 _ _ v0 h
  have h1 := heap_setCell_same _ b 1 _ _ v1 h0
  have h2 := heap_setCell_same _ b 2 _ _ v2 h1
  have h3 := heap_setCell_same _ b 3 _ _ v3 h2
  have h4 := heap_setCell_same _ b 4 _ _ v4 h3
  have h5 := heap_setCell_same _ b 5 _ _ v5 h4
  have h6 := heap_setCell_same _ b 6 _ _ v6 h5
  have h7 := heap_setCell_same _ b 7 _ _ v7 h6
  simpa using h7
theorem row8 {w : World} {b : Nat} {z0 z1 z2 z3 z4 z5 z6 z7 : Value} {t : TypeId} (h : w.heap[b]? = some (.cells #[z0, z1, z2, z3, z4, z5, z6, z7] t (0, 0))) : w.cell? ⟨b, 0, none⟩ = some z0 ∧ w.cell? ⟨b, 1, none⟩ = some z1 ∧ w.cell? ⟨b, 2, none⟩ = some z2 ∧ w.cell? ⟨b, 3, none⟩ = some z3 ∧ w.cell? ⟨b, 4, none⟩ = some z4 ∧ w.cell? ⟨b, 5, none⟩ = some z5 ∧ w.cell? ⟨b, 6, none⟩ = some z6 ∧ w.cell? ⟨b, 7, none⟩ = some z7 :=
  ⟨by simp [World.cell?, h], by simp [World.cell?, h], by simp [World.cell?, h], by simp [World.cell?, h], by simp [World.cell?, h], by simp [World.cell?, h], by simp [World.cell?, h], by simp [World.cell?, h]⟩

set_option maxHeartbeats 2000000 in
set_option maxRecDepth 100000 in
theorem named_at (G o n c i : Nat) (zs : List O) (id : Int) (w : World) (hn : n = zs.length) (h60 : n ≤ 60) (hi : i < n) (hid : (zs[i]!).id = id) (hap : ∀ j, j < i → ¬ (zs[j]!).id = id) (hG : G < w.heap.size) (hL : Lies w G o zs) :
    Calls Try.prog 8 #[.slice (some ⟨G, o, none⟩) n c, .int .i64 id] w fun e w' => e = .returned (.tuple #[.agg (oL zs[i]!).toArray, .bool true]) ∧ Below w.heap.size w w' := by
  have HB : Hid (n = zs.length ∧ n ≤ 60 ∧ i < n) := ⟨hn, h60, hi⟩
  have HID := hidC hid
  have HAP := hidC hap
  have HL := hidC hL
  have HG := hidC hG
  obtain ⟨X, hX⟩ : ∃ x, x = w.heap.size := ⟨_, rfl⟩
  have hB0 : Below w.heap.size w (w.alloc (.cells #[.int .i64 0, .int .i64 0, .int .i64 0, .int .i64 0, .int .i64 0, .int .i64 0, .int .i64 0, .int .i64 0] 24)) := (Below.refl _ _).alloc (Nat.le_refl _) _
  have HB0 := hidC hB0
  have HR : Hid ((w.alloc (.cells #[.int .i64 0, .int .i64 0, .int .i64 0, .int .i64 0, .int .i64 0, .int .i64 0, .int .i64 0, .int .i64 0] 24)).heap[X]? = some (.cells #[.int .i64 0, .int .i64 0, .int .i64 0, .int .i64 0, .int .i64 0, .int .i64 0, .int .i64 0, .int .i64 0] 24 (0, 0))) := by rw [hX]; exact heap_alloc_new w _
  have HL1 := hidC (hL.below hG hB0)
  have HX := hidC hX
  clear hn h60 hi hid hap hG hL hB0
  go_enter Try.func8, Try.ntmps8
  go_wp2_with fail
  simp only [← hX]
  generalize w.alloc (.cells #[.int .i64 0, .int .i64 0, .int .i64 0, .int .i64 0, .int .i64 0, .int .i64 0, .int .i64 0, .int .i64 0] 24) = W1 at HB0 HR HL1 ⊢
  clear hX
  go_loopg [6] i (fun gg s6 wr => ∃ kk : Nat, kk ≤ i ∧ i - kk ≤ gg ∧ s6 = .int .i64 kk ∧ wr = W1)
  case atStart => exact ⟨0, Nat.zero_le _, by omega, rfl, rfl⟩
  case round =>
    obtain ⟨kk, hkk, hg, rfl, rfl⟩ := hrel
    have hb := HB.out
    have hltz : (kk : Int) < (n : Int) := by omega
    by_cases hke : kk = i
    · subst hke
      have hx := HL1.out kk (by omega)
      rcases hxx : zs[kk]! with ⟨a1, a2, a3, a4, a5, a6, a7, a8⟩
      have hidd := HID.out
      rw [hxx] at hx hidd
      simp only at hidd
      subst hidd
      have x0 := hx 0 _ rfl
      have x1 := hx 1 _ rfl
      have x2 := hx 2 _ rfl
      have x3 := hx 3 _ rfl
      have x4 := hx 4 _ rfl
      have x5 := hx 5 _ rfl
      have x6 := hx 6 _ rfl
      have x7 := hx 7 _ rfl
      simp only [Nat.add_zero] at x0
      have he : (a1 == a1) = true := by simp
      have HXX := hidC hxx
      clear hx hxx hb hkk hg HID HAP
      go_upto_region 5 with fail
      refine wp_region_lit ?_
      iterate 4 (refine wpList_step fun K hK => ?_; go_simp; refine hK _ _ ?_; clear hK K; try simp only [Act.put, List.setIfInBounds_toArray, List.set_cons_zero, List.set_cons_succ])
      refine wpList_store_mid rfl 24 (.tmp 4) (.tmp 23) rfl X 0 #[.int .i64 a1, .int .i64 a2, .int .i64 a3, .int .i64 a4, .int .i64 a5, .int .i64 a6, .int .i64 a7, .int .i64 a8] rfl rfl (there8 HR.out) (by kernel_rfl) (by simp [Value.oneCell']) ?_
      have HS := hidC (stored8 (.int .i64 a1) (.int .i64 a2) (.int .i64 a3) (.int .i64 a4) (.int .i64 a5) (.int .i64 a6) (.int .i64 a7) (.int .i64 a8) HR.out)
      have HBF : Hid (Below w.heap.size w (wr.setCells X 0 (oL ⟨a1, a2, a3, a4, a5, a6, a7, a8⟩))) := HB0.out.grown (gr_setCells X _ _ _) HB0.out.size (fun k hk => by cases hk; exact Nat.le_of_eq HX.out.symm)
      show wpList _ _ _ _ _ (wr.setCells X 0 (oL ⟨a1, a2, a3, a4, a5, a6, a7, a8⟩))
      have HS2 : Hid ((wr.setCells X 0 (oL ⟨a1, a2, a3, a4, a5, a6, a7, a8⟩)).heap[X]? = some (.cells #[.int .i64 a1, .int .i64 a2, .int .i64 a3, .int .i64 a4, .int .i64 a5, .int .i64 a6, .int .i64 a7, .int .i64 a8] 24 (0, 0))) := HS.out
      generalize wr.setCells X 0 (oL ⟨a1, a2, a3, a4, a5, a6, a7, a8⟩) = W9 at HS2 HBF ⊢
      clear x0 x1 x2 x3 x4 x5 x6 x7 HS
      obtain ⟨y0, y1, y2, y3, y4, y5, y6, y7⟩ := row8 HS2.out
      go_wp2_with fail
      exact bodyPost_ret (v := .tuple #[.agg #[.int .i64 a1, .int .i64 a2, .int .i64 a3, .int .i64 a4, .int .i64 a5, .int .i64 a6, .int .i64 a7, .int .i64 a8], .bool true]) (by simp [results, Try.results8, go_sem, y0, y1, y2, y3, y4, y5, y6, y7]) rfl ⟨by rw [HXX.out]; rfl, HBF.out⟩
    · have hne := HAP.out kk (by omega)
      have x0 := HL1.out kk (by omega) 0 _ rfl
      simp only [Nat.add_zero] at x0
      have he : ((zs[kk]!).id == id) = false := by simpa using hne
      generalize (zs[kk]!).id = D at x0 he hne
      have HM : Hid (kk + 1 ≤ i ∧ i - kk ≤ gk ∧ kk ≤ 5000) := ⟨by omega, hg, by omega⟩
      have ei := succW kk HM.out.2.2
      clear hb hkk hg hke
      go_wp2_with fail
      go_roundg (i - (kk + 1))
      case measure => have := HM.out; clear ei; omega
      case rel => exact ⟨kk + 1, HM.out.1, Nat.le_refl _, by first | rfl | exact congrArg (Value.int .i64) ei, rfl⟩

/-- The cells of a trade. -/
theorem flatT_len (ts : List T) : (flatT ts).length = ts.length * 6 := by
  induction ts with
  | nil => rfl
  | cons t r ih =>
    have e : flatT (t :: r) = tL t ++ flatT r := rfl
    rw [e, List.length_append, ih, List.length_cons]
    have : (tL t).length = 6 := rfl
    omega
instance : Inhabited T := ⟨⟨0, 0, 0, 0, 0, 0⟩⟩
theorem flatT_get (ts : List T) : ∀ j, j < ts.length → ∀ i, i < 6 → (flatT ts)[j * 6 + i]? = (tL ts[j]!)[i]? := by
  induction ts with
  | nil => intro j hj; simp at hj
  | cons r t ih =>
    intro j hj i hi
    have e : flatT (r :: t) = tL r ++ flatT t := rfl
    rw [e]
    cases j with
    | zero => rw [Nat.zero_mul, Nat.zero_add, List.getElem?_append_left (by show i < 6; exact hi)]; rfl
    | succ j =>
      rw [List.getElem?_append_right (by show 6 ≤ _; omega)]
      have : (j + 1) * 6 + i - (tL r).length = j * 6 + i := by show (j + 1) * 6 + i - 6 = _; omega
      rw [this, ih j (by simpa using hj) i hi]
      rfl
/-- Trades in a block. -/
theorem trades_some {w : World} {base : Nat} {q : Option Addr} {m c : Nat} {ts : List T} (h : OwnM w base 36 6 (.slice q m c) m (flatT ts)) (hm : m = ts.length) (h0 : 0 < m) : ∃ B o, q = some ⟨B, o, none⟩ ∧ base ≤ B ∧ B < w.heap.size ∧ ∀ j, j < m → ∀ i v, (tL ts[j]!)[i]? = some v → w.cell? ⟨B, o + j * 6 + i, none⟩ = some v := by
  have h' := h
  rcases h.2 with ⟨h1, h2⟩ | ⟨g, off, cap, cur, h1, hb, hcur, _⟩
  · omega
  · cases h1
    obtain ⟨-, -, -, -, -, hr, -⟩ := own_range h'
    refine ⟨g, off, rfl, hb, (Array.getElem?_eq_some_iff.1 hcur).1, fun j hj i v hv => ?_⟩
    have hi : i < 6 := (List.getElem?_eq_some_iff.1 hv).1
    have := hr (j * 6 + i) v (by rw [flatT_get ts j (by omega) i hi]; exact hv)
    rwa [← Nat.add_assoc] at this
theorem own_sl {w : World} {base : Nat} {q : Option Addr} {m c : Nat} {os : List O} (h : OwnM w base 24 8 (.slice q m c) m (flat os)) (hm : m = os.length) : SL w (.slice q m c) os := wak.OwnQ.sl (base := base) (by show OwnM _ _ _ _ _ _ _; rw [← hm]; exact h)
theorem sl_lies {w : World} {q : Option Addr} {n c : Nat} {zs : List O} (h : SL w (.slice q n c) zs) : n = zs.length := by
  rcases h with ⟨h1, h2⟩ | ⟨b, o, c', h1, -⟩
  · cases h1; rw [h2]; rfl
  · cases h1; rfl
end Go.Proofs.Ytigikpncccdkdaa.cal
