/- Contracts over this seat's translation: call.Price, call.Volume. Contracts over this seat's translation: call.Uncross. -/
import Derived.Test.YtbdhfbfebcblkaaCalChk
import Derived.Test.YtbdhfbfebcblkaaCalTrd
import Derived.Test.YtbdhfbfebcblkaaCalDel
namespace Go.Proofs.Ytbdhfbfebcblkaa.cal
open Go.RowKit Go.Proofs.Ytbdhfbfebcblkaa.ord
open Go.Proofs.Ytbdhfbfebcblkaa.wak (Lies SL oL OwnM OwnQ flat oL_agg gr_setCell)
open Go.Proofs.Ytbdhfbfebcblkaa.spn (keeps bcell)

theorem sl_form {w : World} {v : Value} {zs : List O} (h : SL w v zs) : ∃ q c, v = .slice q zs.length c := by
  rcases h with ⟨rfl, rfl⟩ | ⟨b, o, c, rfl, -⟩
  · exact ⟨_, _, rfl⟩
  · exact ⟨_, _, rfl⟩
theorem sl_some {w : World} {q : Option Addr} {n c : Nat} {zs : List O} (h : SL w (.slice q n c) zs) (hn : 0 < n) : ∃ G o, q = some ⟨G, o, none⟩ ∧ G < w.heap.size ∧ Lies w G o zs := by
  rcases h with ⟨h1, -⟩ | ⟨b, o, c', h1, -, -, h4, h5⟩
  · cases h1; omega
  · cases h1; exact ⟨b, o, rfl, h4, h5⟩

theorem ofAt_over {zs : List O} (h : Good zs) (p : Int) : -1000000 ≤ (ofAt zs p).over ∧ (ofAt zs p).over ≤ 1000000 := by
  have h1 := ws_small h 1 p zs.length
  have h2 := ws_small h 2 p zs.length
  rw [List.take_length] at h1 h2
  unfold ofAt
  simp only
  omega

/-- What holds while the best offer is sought. -/
structure PrI (w : World) (X : Nat) (zs : List O) (k : Nat) (b : Of) (wr : World) : Prop where
  ex : X = w.heap.size
  far : Below w.heap.size w wr
  row : wr.heap[X]? = some (.cells #[.int .i64 b.price, .int .i64 b.vol, .int .i64 b.over] 70 (0, 0))
  rest : best zs = bestF zs (zs.drop k) b
  few : -1000000 ≤ b.over ∧ b.over ≤ 1000000

/-- The price and the volume that Price tells. -/
def pP (zs : List O) : Int := if pE zs = 0 then (best zs).price else 0
def pV (zs : List O) : Int := if pE zs = 0 then (best zs).vol else 0

set_option maxHeartbeats 1000000 in
theorem price_bad (v : Value) (zs : List O) (w : World) (h : SL w v zs) (h0 : ¬ cE zs = 0) : Calls Try.prog 9 #[v] w fun e w' => e = .returned (.tuple #[.int .i64 (pP zs), .int .i64 (pV zs), errV (pE zs)]) ∧ Below w.heap.size w w' := by
  have e : pE zs = cE zs := by unfold pE; rw [if_neg h0]
  have HC := hidC (check_call v zs w h)
  rw [errV_of h0] at HC
  unfold pP pV
  rw [e, if_neg h0, if_neg h0, errV_of h0]
  generalize cE zs = K at *
  clear h e h0
  go_enter Try.func9, Try.ntmps9
  go_wp2_with fail
  refine HC.out.mono ?_
  rintro e w1 ⟨rfl, hb⟩
  have HB := hidC hb
  clear hb HC
  go_wp2_with fail
  go_ret3
  exact ⟨rfl, HB.out⟩

set_option maxHeartbeats 2000000 in
set_option maxRecDepth 100000 in
theorem price_fine (q : Option Addr) (n c : Nat) (zs : List O) (w : World) (hn : n = zs.length) (h : SL w (.slice q n c) zs) (h0 : cE zs = 0) (P V E : Int) (hE : E = if (best zs).vol = 0 then 5 else 0) (hP : P = if (best zs).vol = 0 then 0 else (best zs).price) (hV : V = if (best zs).vol = 0 then 0 else (best zs).vol) : Calls Try.prog 9 #[.slice q n c] w fun e w' => e = .returned (.tuple #[.int .i64 P, .int .i64 V, errV E]) ∧ Below w.heap.size w w' := by
  have HPVE : Hid (∀ b, best zs = b → E = (if b.vol = 0 then 5 else 0) ∧ P = (if b.vol = 0 then 0 else b.price) ∧ V = (if b.vol = 0 then 0 else b.vol)) := fun b e => by subst e; exact ⟨hE, hP, hV⟩
  clear hE hP hV
  have HC := hidC (check_call _ zs w h)
  rw [h0, errV_zero] at HC
  have hgd := good_of h0
  have HGD := hidC hgd
  have HN := hidC hn
  have HSL := hidC h
  clear h h0 hn hgd
  go_enter Try.func9, Try.ntmps9
  go_wp2_with fail
  refine HC.out.mono ?_
  rintro e w1 ⟨rfl, hb⟩
  have HB := hidC hb
  obtain ⟨X, hX⟩ : ∃ x, x = w1.heap.size := ⟨_, rfl⟩
  have H0 : Hid (PrI w1 X zs 0 ⟨0, 0, 0⟩ (w1.alloc (.cells #[.int .i64 0, .int .i64 0, .int .i64 0] 70))) := ⟨hX, (Below.refl _ _).alloc (Nat.le_refl _) _, by rw [hX]; exact heap_alloc_new w1 _, rfl, by decide⟩
  have HX := hidC hX
  have HSL1 := hidC (HSL.out.below hb)
  clear hb HC HSL
  go_wp2_with fail
  simp only [← hX]
  generalize w1.alloc (.cells #[.int .i64 0, .int .i64 0, .int .i64 0] 70) = W1 at H0 ⊢
  clear hX
  go_loopg [8, 9, 18] n (fun gg _ _ s18 wr => ∃ kk : Nat, kk ≤ n ∧ n - kk ≤ gg ∧ s18 = .int .i64 kk ∧ Aside (∃ b, PrI w1 X zs kk b wr))
  case atStart => exact ⟨0, Nat.zero_le _, by omega, rfl, _, H0.out⟩
  case round =>
    clear H0
    obtain ⟨kk, hkk, hg, rfl, HA⟩ := hrel
    obtain ⟨b, hI⟩ := HA.out
    by_cases hlt : kk < n
    · obtain ⟨G, o, rfl, hG, hL⟩ := sl_some HSL1.out (by omega)
      have hlz : kk < zs.length := by have := HN.out; omega
      have hltz : (kk : Int) < (n : Int) := by omega
      have hB := hI.far
      have hx := (hL.below hG hB) kk hlz
      have hf : Fine zs[kk]! := by rw [wak.getE zs kk hlz]; exact HGD.out.fine _ (List.getElem_mem _)
      have HOF : Hid (∀ V, Below w1.heap.size w1 V → Calls Try.prog 30 #[.slice (some ⟨G, o, none⟩) n c, .int .i64 (zs[kk]!).price] V fun e w' => e = .returned (ofV (ofAt zs (zs[kk]!).price)) ∧ Below V.heap.size V w') := fun V hV => offerAt_any _ zs _ V (HSL1.out.below hV) HGD.out hf.pr
      have HBT : Hid (∀ V, Calls Try.prog 31 #[ofV (ofAt zs (zs[kk]!).price), ofV b] V fun e w' => e = .returned (.bool (bet (ofAt zs (zs[kk]!).price) b)) ∧ Below V.heap.size V w') := fun V => better_any _ b V (ofAt_over HGD.out _) hI.few
      have HST : Hid (best zs = bestF zs (zs.drop (kk + 1)) (if bet (ofAt zs (zs[kk]!).price) b = true then ofAt zs (zs[kk]!).price else b)) := hI.rest.trans (bestF_step zs kk b hlz)
      have HFW := hidC (ofAt_over HGD.out (zs[kk]!).price)
      rcases hxx : zs[kk]! with ⟨a1, a2, a3, a4, a5, a6, a7, a8⟩
      rw [hxx] at hx HOF HBT HST HFW
      simp only at HOF HBT HST HFW
      generalize ofAt zs a5 = A at HOF HBT HST HFW
      obtain ⟨ap, av, ao⟩ := A
      obtain ⟨bp, bv, bo⟩ := b
      have HOF2 : Hid (∀ V, Below w1.heap.size w1 V → Calls Try.prog 30 #[.slice (some ⟨G, o, none⟩) n c, .int .i64 a5] V fun e w' => e = .returned (.agg #[.int .i64 ap, .int .i64 av, .int .i64 ao]) ∧ Below V.heap.size V w') := HOF.out
      have HBT2 : Hid (∀ V, Calls Try.prog 31 #[.agg #[.int .i64 ap, .int .i64 av, .int .i64 ao], .agg #[.int .i64 bp, .int .i64 bv, .int .i64 bo]] V fun e w' => e = .returned (.bool (bet ⟨ap, av, ao⟩ ⟨bp, bv, bo⟩)) ∧ Below V.heap.size V w') := HBT.out
      generalize bet ⟨ap, av, ao⟩ ⟨bp, bv, bo⟩ = M at HBT2 HST
      have x0 := hx 0 _ rfl
      have x1 := hx 1 _ rfl
      have x2 := hx 2 _ rfl
      have x3 := hx 3 _ rfl
      have x4 := hx 4 _ rfl
      have x5 := hx 5 _ rfl
      have x6 := hx 6 _ rfl
      have x7 := hx 7 _ rfl
      simp only [Nat.add_zero] at x0
      have HM : Hid (kk < n ∧ n - kk ≤ gk ∧ kk ≤ 5000) := ⟨hlt, hg, by have := HGD.out.few; omega⟩
      have ei := succW kk HM.out.2.2
      have HI := hidC hI
      have HA0 : Hid (Below wr.heap.size wr (wr.alloc (.cells #[.int .i64 a1, .int .i64 a2, .int .i64 a3, .int .i64 a4, .int .i64 a5, .int .i64 a6, .int .i64 a7, .int .i64 a8] 35))) := (Below.refl _ _).alloc (Nat.le_refl _) _
      clear hx hxx hB HA hkk hg hlz hf hI HOF HBT hL hG hlt
      go_wp2_with fail
      clear x0 x1 x2 x3 x4 x5 x6 x7
      refine (HOF2.out _ (HI.out.far.trans (HA0.out.mono HI.out.far.size))).mono ?_
      rintro e W2 ⟨rfl, hb2⟩
      have HB2 := hidC (HA0.out.trans (hb2.mono HA0.out.size))
      have hR2 : W2.heap[X]? = some (.cells #[.int .i64 bp, .int .i64 bv, .int .i64 bo] 70 (0, 0)) := (HB2.out.block X (Array.getElem?_eq_some_iff.1 HI.out.row).1).trans HI.out.row
      obtain ⟨d0, d1, d2, df⟩ := rowThree hR2
      have hz2 : X < W2.heap.size := (Array.getElem?_eq_some_iff.1 hR2).1
      have HB3 : Hid (Below wr.heap.size wr (W2.alloc (.cells #[.int .i64 ap, .int .i64 av, .int .i64 ao] 70))) := HB2.out.alloc HB2.out.size _
      have HY : Hid ((W2.alloc (.cells #[.int .i64 ap, .int .i64 av, .int .i64 ao] 70)).heap[W2.heap.size]? = some (.cells #[.int .i64 ap, .int .i64 av, .int .i64 ao] 70 (0, 0))) := heap_alloc_new W2 _
      clear hb2 HOF2 hR2 HA0
      go_wp2_with fail
      clear d0 d1 d2 df hz2
      refine (HBT2.out _).mono ?_
      rintro e W3 ⟨rfl, hb3⟩
      have HB4 := hidC (HB3.out.trans (hb3.mono HB3.out.size))
      have hR3 : W3.heap[X]? = some (.cells #[.int .i64 bp, .int .i64 bv, .int .i64 bo] 70 (0, 0)) := (HB4.out.block X (Array.getElem?_eq_some_iff.1 HI.out.row).1).trans HI.out.row
      have hY3 : W3.heap[W2.heap.size]? = some (.cells #[.int .i64 ap, .int .i64 av, .int .i64 ao] 70 (0, 0)) := (hb3.block _ (Array.getElem?_eq_some_iff.1 HY.out).1).trans HY.out
      have HFR : Hid (Below w1.heap.size w1 W3) := HI.out.far.trans (HB4.out.mono HI.out.far.size)
      generalize W2.heap.size = Y at hY3 ⊢
      clear hb3 HBT2 HB3 HY HB2
      cases M with
      | false =>
        have HNX : Hid (PrI w1 X zs (kk + 1) ⟨bp, bv, bo⟩ W3) := ⟨HI.out.ex, HFR.out, hR3, by have h := HST.out; simpa using h, HI.out.few⟩
        clear hR3 hY3
        go_wp2_with fail
        go_roundg (n - (kk + 1))
        case measure => have := HM.out; clear ei; omega
        case rel => exact ⟨kk + 1, HM.out.1, Nat.le_refl _, by first | rfl | exact congrArg (Value.int .i64) ei, _, HNX.out⟩
      | true =>
        have HNX : Hid (PrI w1 X zs (kk + 1) ⟨ap, av, ao⟩ (((W3.setCell ⟨X, 0, none⟩ (.int .i64 ap)).setCell ⟨X, 1, none⟩ (.int .i64 av)).setCell ⟨X, 2, none⟩ (.int .i64 ao))) := ⟨HI.out.ex, belThree HFR.out (Nat.le_of_eq HI.out.ex.symm) _ _ _, setThree hR3 _ _ _, by have h := HST.out; simpa using h, HFW.out⟩
        obtain ⟨d0, d1, d2, df⟩ := rowThree hR3
        obtain ⟨y0, y1, y2, -⟩ := rowThree hY3
        clear hR3 hY3
        go_wp2_with fail
        generalize (((W3.setCell ⟨X, 0, none⟩ (.int .i64 ap)).setCell ⟨X, 1, none⟩ (.int .i64 av)).setCell ⟨X, 2, none⟩ (.int .i64 ao)) = W9 at HNX ⊢
        clear d0 d1 d2 df y0 y1 y2
        go_roundg (n - (kk + 1))
        case measure => have := HM.out; clear ei; omega
        case rel => exact ⟨kk + 1, HM.out.1, Nat.le_refl _, by first | rfl | exact congrArg (Value.int .i64) ei, _, HNX.out⟩
    · have hke : kk = n := by omega
      subst hke
      have hltz : ¬ (kk : Int) < (kk : Int) := by omega
      have hbe : best zs = b := by
        have h := hI.rest
        rw [HN.out, List.drop_length] at h
        exact h
      obtain ⟨d0, d1, d2, -⟩ := rowThree hI.row
      have HF := hidC (HB.out.trans (hI.far.mono HB.out.size))
      obtain ⟨e1, e2, e3⟩ := HPVE.out b hbe
      obtain ⟨bp, bv, bo⟩ := b
      simp only at d0 d1 d2 e1 e2 e3
      clear HA hkk hg hlt hI hbe d2
      by_cases hv : bv = 0
      · subst hv
        rw [if_pos rfl] at e1 e2 e3
        have HEE : Hid (E = 5 ∧ P = 0 ∧ V = 0) := ⟨e1, e2, e3⟩
        clear e1 e2 e3 HPVE
        go_wp2_with fail
        go_ret3
        exact ⟨by rw [HEE.out.1, HEE.out.2.1, HEE.out.2.2]; rfl, HF.out⟩
      · have hv' : (bv == 0) = false := by simpa using hv
        rw [if_neg hv] at e1 e2 e3
        have HEE : Hid (E = 0 ∧ P = bp ∧ V = bv) := ⟨e1, e2, e3⟩
        clear hv e1 e2 e3 HPVE
        go_wp2_with fail
        go_quiet (fail)
        have hfin := (⟨HF.out.os, HF.out.tape, HF.out.output, HF.out.size, HF.out.block⟩ : Below w.heap.size w (wr.drewN nq))
        go_wp2_with fail
        go_ret3
        exact ⟨by rw [HEE.out.1, HEE.out.2.1, HEE.out.2.2]; rfl, hfin⟩
theorem price_call (v : Value) (zs : List O) (w : World) (h : SL w v zs) : Calls Try.prog 9 #[v] w fun e w' => e = .returned (.tuple #[.int .i64 (pP zs), .int .i64 (pV zs), errV (pE zs)]) ∧ Below w.heap.size w w' := by
  by_cases h0 : cE zs = 0
  · obtain ⟨q, c, rfl⟩ := sl_form h
    have e : pE zs = if (best zs).vol = 0 then 5 else 0 := by unfold pE; rw [if_pos h0]
    have e1 : pP zs = if (best zs).vol = 0 then 0 else (best zs).price := by unfold pP; rw [e]; split <;> simp
    have e2 : pV zs = if (best zs).vol = 0 then 0 else (best zs).vol := by unfold pV; rw [e]; split <;> simp
    exact price_fine q zs.length c zs w rfl h h0 _ _ _ e e1 e2
  · exact price_bad v zs w h h0

end Go.Proofs.Ytbdhfbfebcblkaa.cal
namespace Go.Proofs.Ytbdhfbfebcblkaa.cal
open Go.RowKit Go.Proofs.Ytbdhfbfebcblkaa.ord
open Go.Proofs.Ytbdhfbfebcblkaa.wak (Lies SL oL OwnM OwnQ flat flat_len getE own_of own_range gr_below gr_trans)

theorem bestF_is (zs : List O) : ∀ (l : List O) (b : Of), bestF zs l b = b ∨ ∃ o ∈ l, bestF zs l b = ofAt zs o.price
  | [], b => .inl rfl
  | o :: t, b => by
    rw [bestF]
    by_cases h : bet (ofAt zs o.price) b = true
    · rw [if_pos h]
      rcases bestF_is zs t (ofAt zs o.price) with e | ⟨x, hx, e⟩
      · exact .inr ⟨o, List.mem_cons_self, e⟩
      · exact .inr ⟨x, List.mem_cons_of_mem _ hx, e⟩
    · rw [if_neg h]
      rcases bestF_is zs t b with e | ⟨x, hx, e⟩
      · exact .inl e
      · exact .inr ⟨x, List.mem_cons_of_mem _ hx, e⟩
/-- Where Price tells no error. -/
theorem price_zero {zs : List O} (h : pE zs = 0) : Good zs ∧ pP zs = (best zs).price ∧ pV zs = (best zs).vol ∧ pV zs = min (ws 1 (pP zs) zs) (ws 2 (pP zs) zs) ∧ 0 < pV zs ∧ pV zs ≤ 600000 ∧ prB (pP zs) = true ∧ ∃ o ∈ zs, pP zs = o.price := by
  have hc : cE zs = 0 := by
    unfold pE at h
    by_cases hc : cE zs = 0
    · exact hc
    · rw [if_neg hc] at h; exact h
  have hv : ¬ (best zs).vol = 0 := by
    unfold pE at h
    rw [if_pos hc] at h
    intro hv
    rw [if_pos hv] at h
    simp at h
  have hg := good_of hc
  have e1 : pP zs = (best zs).price := by unfold pP; rw [if_pos h]
  have e2 : pV zs = (best zs).vol := by unfold pV; rw [if_pos h]
  rcases bestF_is zs zs ⟨0, 0, 0⟩ with e | ⟨o, ho, e⟩
  · exact (hv (by unfold best; rw [e])).elim
  · have eb : best zs = ofAt zs o.price := e
    have e3 : pP zs = o.price := by rw [e1, eb]; rfl
    have e4 : pV zs = min (ws 1 (pP zs) zs) (ws 2 (pP zs) zs) := by rw [e2, e3, eb]; rfl
    have h1 := ws_small hg 1 (pP zs) zs.length
    have h2 := ws_small hg 2 (pP zs) zs.length
    rw [List.take_length] at h1 h2
    exact ⟨hg, e1, e2, e4, by omega, by omega, by rw [e3]; exact (hg.fine o ho).pr, o, ho, e3⟩

set_option maxHeartbeats 1000000 in
theorem uncross_bad (v : Value) (zs : List O) (w : World) (h : SL w v zs) (h0 : ¬ pE zs = 0) : Calls Try.prog 5 #[v] w fun e w' => e = .returned (.tuple #[.int .i64 0, .slice none 0 0, .slice none 0 0, errV (pE zs)]) ∧ Below w.heap.size w w' := by
  have HC := hidC (price_call v zs w h)
  rw [errV_of h0] at HC
  rw [errV_of h0]
  generalize pE zs = K at *
  generalize pP zs = P at *
  generalize pV zs = V at *
  clear h h0
  go_enter Try.func5, Try.ntmps5
  go_wp2_with fail
  refine HC.out.mono ?_
  rintro e w1 ⟨rfl, hb⟩
  have HB := hidC hb
  clear hb HC
  go_wp2_with fail
  go_returns
  exact ⟨rfl, HB.out⟩

/-- What Uncross leaves. -/
def UncPost (zs : List O) (P V : Int) (w : World) (e : Ending) (w' : World) : Prop :=
  ∃ qt mt ct qr mr cr ts os, e = .returned (.tuple #[.int .i64 P, .slice qt mt ct, .slice qr mr cr, .nilIface]) ∧ mt = ts.length ∧ mr = (os.filter nz).length ∧ U P V zs ts os ∧ Sh zs os ∧ Nn os ∧ mt ≤ 120 ∧
    OwnM w' w.heap.size 46 6 (.slice qt mt ct) mt (flatT ts) ∧ OwnM w' w.heap.size 35 8 (.slice qr mr cr) mr (flat (os.filter nz)) ∧ (∀ k, (Value.slice qt mt ct).ownBlock = some k → (Value.slice qr mr cr).ownBlock ≠ some k) ∧ Below w.heap.size w w'

theorem idxs_some {zs : List O} {side p : Int} (hn : Nn zs) (h : 0 < ws side p zs) : idxs side zs zs.length ≠ [] := by
  obtain ⟨j, h1, h2, -, -⟩ := ws_pos side p zs hn h
  have := (idxs_mem side zs zs.length j).2 ⟨h1, h2⟩
  intro e
  rw [e] at this
  simp at this

set_option maxHeartbeats 2000000 in
set_option maxRecDepth 100000 in
theorem uncross_fine (v : Value) (zs : List O) (w : World) (h : SL w v zs) (h0 : pE zs = 0) : Calls Try.prog 5 #[v] w fun e w' => UncPost zs (pP zs) (pV zs) w e w' := by
  have HC := hidC (price_call v zs w h)
  rw [h0, errV_zero] at HC
  obtain ⟨hg, -, -, hV, hV0, hV6, -, o1, ho1, -⟩ := price_zero h0
  generalize pP zs = P at *
  generalize pV zs = V at *
  have hpos : 0 < zs.length := List.length_pos_of_mem ho1
  obtain ⟨qv, cv, rfl⟩ := sl_form h
  obtain ⟨G0, o0, rfl, hG0, hL0⟩ := sl_some h hpos
  have hnn := nn_of hg
  have HGD := hidC hg
  have HNN := hidC hnn
  have HV : Hid (V = min (ws 1 P zs) (ws 2 P zs) ∧ 0 < V ∧ V ≤ 600000 ∧ 0 < zs.length ∧ zs.length ≤ 60) := ⟨hV, hV0, hV6, hpos, hg.few⟩
  have HL0 : Hid (∀ W, Below w.heap.size w W → G0 < W.heap.size ∧ Lies W G0 o0 zs) := fun W hW => ⟨Nat.lt_of_lt_of_le hG0 hW.size, hL0.below hG0 hW⟩
  obtain ⟨n, hn⟩ : ∃ n, n = zs.length := ⟨_, rfl⟩
  rw [← hn] at HC ⊢
  have HN := hidC hn
  clear h h0 hg hV hV0 hV6 ho1 hpos hG0 hL0 hnn hn
  go_enter Try.func5, Try.ntmps5
  go_wp2_with fail
  refine HC.out.mono ?_
  rintro e w1 ⟨rfl, hb1⟩
  have HB1 := hidC hb1
  obtain ⟨g1, g2⟩ := HL0.out w1 hb1
  have HCL := hidC (clone_some G0 o0 n cv zs w1 HN.out (by have := HN.out; have := HV.out; omega) g1 g2)
  clear hb1 HC g1 g2 HL0
  go_wp2_with fail
  refine HCL.out.mono ?_
  rintro e w2 ⟨q2, c2, rfl, ho2, hb2⟩
  obtain ⟨G, o, rfl⟩ : ∃ G o, q2 = some ⟨G, o, none⟩ := by
    rcases ho2.2 with ⟨h1, h2⟩ | ⟨g, off, cap, cur, h1, _⟩
    · have := HV.out; have := HN.out; omega
    · cases h1; exact ⟨g, off, rfl⟩
  have HB2 := hidC (HB1.out.trans (hb2.mono HB1.out.size))
  have hGl := OwnM.lt ho2 G rfl
  have hsl : Lies w2 G o zs := by
    have hq : SL w2 (.slice (some ⟨G, o, none⟩) zs.length c2) zs := wak.OwnQ.sl (base := w1.heap.size) (by show OwnM _ _ _ _ _ _ _; rw [← HN.out]; exact ho2)
    rcases hq with ⟨h1, -⟩ | ⟨b, o', c', h1, -, -, -, h5⟩
    · cases h1
    · cases h1; exact h5
  have HO2 := hidC ho2
  have HG : Hid (w.heap.size ≤ G ∧ G < w2.heap.size) := ⟨Nat.le_trans HB1.out.size hGl.1, hGl.2⟩
  have HLI := hidC hsl
  have HC1 := hidC (line_any 1 (.inl rfl) G o n c2 zs w2 HN.out (by have := HN.out; have := HV.out; omega) hGl.2 hsl (idxs_some (p := P) HNN.out (by have := HV.out; omega)))
  clear ho2 hb2 HCL hGl hsl
  go_wp2_with fail
  refine HC1.out.mono ?_
  rintro e w3 ⟨B1, f1, k1, is1, rfl, hl1, hm1, hp1, hb3⟩
  have HB3 := hidC hb3
  have HLN1 : Hid (Line 1 zs is1 ∧ is1.length ≤ zs.length) := ⟨hl1, hm1⟩
  have HP1 := hidC hp1
  have HC2 := hidC (line_any 2 (.inr rfl) G o n c2 zs w3 HN.out (by have := HN.out; have := HV.out; omega) (Nat.lt_of_lt_of_le HG.out.2 hb3.size) (HLI.out.below HG.out.2 hb3) (idxs_some (p := P) HNN.out (by have := HV.out; omega)))
  obtain ⟨m1, hm1e⟩ : ∃ m, m = is1.length := ⟨_, rfl⟩
  have HM1 := hidC hm1e
  rw [← hm1e]
  clear hl1 hm1 hp1 hb3 HC1 hm1e
  go_wp2_with fail
  refine HC2.out.mono ?_
  rintro e w4 ⟨B2, f2, k2, is2, rfl, hl2, hm2, hp2, hb4⟩
  have hTM : TM w4 w.heap.size G o n c2 zs zs (.slice (some ⟨B1, f1, none⟩) m1 k1) (.slice (some ⟨B2, f2, none⟩) is2.length k2) (.slice none 0 0) is1 is2 [] w4 := by
    have q1 := HP1.out
    rw [← HM1.out] at q1
    have q1' : OwnM w3 w2.heap.size 73 1 (.slice (some ⟨B1, f1, none⟩) m1 k1) is1.length (is1.map (encP G o zs)) := q1
    have hs2 := HB2.out.size
    have hs3 := HB3.out.size
    have lt1 := OwnM.lt q1' B1 rfl
    have lt2' := OwnM.lt hp2 B2 rfl
    have hG' := HG.out
    refine ⟨⟨rfl, rfl, rfl, Nat.le_refl _, fun _ _ _ => rfl⟩, by have := hb4.size; omega, HN.out, ?_, ?_, ?_, ?_, ?_, ⟨rfl, .inl ⟨rfl, rfl⟩⟩⟩
    · exact OwnM.mono (OwnM.below (OwnM.below HO2.out HB3.out) hb4) HB1.out.size
    · exact OwnM.mono (OwnM.below q1' hb4) hs2
    · exact OwnM.mono hp2 (by omega)
    · intro k hk
      have : k = B1 := by cases hk; rfl
      subst this
      have := hb4.size
      exact ⟨by omega, by omega⟩
    · intro k hk
      have : k = B2 := by cases hk; rfl
      subst this
      exact ⟨by omega, by omega⟩
  have HC3 := hidC (trade_any w4 w.heap.size G o n c2 zs (some ⟨B1, f1, none⟩) (some ⟨B2, f2, none⟩) m1 k1 is2.length k2 is1 is2 P V HV.out.2.2.2.2 HV.out.2.2.1 HM1.out rfl (by have := HLN1.out.2; have := HV.out; omega) (by have := HV.out; omega) hTM (TI.start HNN.out (ln_of HGD.out HLN1.out.1) (ln_of HGD.out hl2) HV.out.1))
  have HB4 := hidC (HB2.out.trans ((HB3.out.trans (hb4.mono HB3.out.size)).mono HB2.out.size))
  have HG4 : Hid (w.heap.size ≤ G ∧ G < w4.heap.size) := ⟨HG.out.1, Nat.lt_of_lt_of_le HG.out.2 (Nat.le_trans HB3.out.size hb4.size)⟩
  obtain ⟨m2, hm2e⟩ : ∃ m, m = is2.length := ⟨_, rfl⟩
  rw [← hm2e] at HC3 ⊢
  clear hTM hl2 hm2 hp2 hb4 HC2 hm2e HP1 HLN1 HM1 HLI HG HO2 HB3 HB2
  go_wp2_with fail
  refine HC3.out.mono ?_
  rintro e w5 ⟨qt, mt, ct, ts, os, vb, vs, bs, ss, rfl, hmt, hU, hSh, hNn, hmt2, hTM⟩
  have hlen : n = os.length := hTM.len
  have HC4 := hidC (delete_any w5 w.heap.size G o n c2 os hlen (by have := HN.out; have := HV.out; omega) hTM.own)
  have HT := hidC hTM
  have HU : Hid (mt = ts.length ∧ U P V zs ts os ∧ Sh zs os ∧ Nn os ∧ mt ≤ 120) := ⟨hmt, hU, hSh, hNn, hmt2⟩
  clear HC3 hmt hU hSh hNn hmt2 hTM hlen
  go_wp2_with fail
  refine HC4.out.mono ?_
  rintro e w6 ⟨mr, rfl, hmr, ho6, hg6⟩
  have HE : Hid (UncPost zs P V w (.returned (.tuple #[.int .i64 P, .slice qt mt ct, .slice (some ⟨G, o, none⟩) mr c2, .nilIface])) w6) := by
    have hu := HU.out
    have hT := HT.out
    have hG4 := HG4.out
    have htr : OwnM w5 w4.heap.size 46 6 (.slice qt mt ct) mt (flatT ts) := by
      have h : OwnM w5 w4.heap.size 46 6 (.slice qt mt ct) ts.length (flatT ts) := hT.tr
      rw [← hu.1] at h
      exact h
    have hfar : ∀ k, (Value.slice qt mt ct).ownBlock = some k → k ≠ G := fun k hk e => by have := (OwnM.lt htr k hk).1; omega
    refine ⟨qt, mt, ct, _, mr, c2, ts, os, rfl, hu.1, hmr, hu.2.1, hu.2.2.1, hu.2.2.2.1, hu.2.2.2.2, ?_, ho6, ?_, ?_⟩
    · exact OwnM.mono (OwnM.aside htr hg6 (fun k hk e => by cases e; exact hfar _ hk rfl)) HB4.out.size
    · intro k hk e
      exact hfar k hk (by cases e; rfl)
    · have h5 : Below w.heap.size w w5 := HB4.out.grown hT.gr HB4.out.size (fun k hk => by cases hk; exact hG4.1)
      exact h5.grown hg6 h5.size (fun k hk => by cases hk; exact hG4.1)
  clear HC4 hmr ho6 hg6 HT HU HB4 HG4
  go_wp2_with fail
  go_returns
  exact HE.out
end Go.Proofs.Ytbdhfbfebcblkaa.cal
