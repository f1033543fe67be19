/- Contracts over this seat's translation: call.Price, call.Volume. -/
import Derived.Test.YtabcfmpmkdoieaaDoorCalBet
import Derived.Test.YtabcfmpmkdoieaaDoorCalChk
namespace Go.Proofs.YtabcfmpmkdoieaaDoor.cal
open Go.RowKit Go.Proofs.YtabcfmpmkdoieaaDoor.ord
open Go.Proofs.YtabcfmpmkdoieaaDoor.wak (Lies SL oL OwnM OwnQ flat oL_agg gr_setCell)
open Go.Proofs.YtabcfmpmkdoieaaDoor.spn (keeps bcell)

theorem sl_form {w : World} {v : Value} {zs : List O} (h : SL w v zs) : ∃ q c, v = .slice q zs.length c := by
  rcases h with ⟨rfl, rfl⟩ | ⟨b, o, c, rfl, -⟩
  · exact ⟨_, _, rfl⟩
  · exact ⟨_, _, rfl⟩
theorem sl_some {w : World} {q : Option Addr} {n c : Nat} {zs : List O} (h : SL w (.slice q n c) zs) (hn : 0 < n) : ∃ G o, q = some ⟨G, o, none⟩ ∧ G < w.heap.size ∧ Lies w G o zs := by
  rcases h with ⟨h1, -⟩ | ⟨b, o, c', h1, -, -, h4, h5⟩
  · cases h1; omega
  · cases h1; exact ⟨b, o, rfl, h4, h5⟩

theorem ofAt_over {zs : List O} (h : Good zs) (p : Int) : -1000000 ≤ (ofAt zs p).over ∧ (ofAt zs p).over ≤ 1000000 := by
  have h1 := ws_small h 1 p zs.length
  have h2 := ws_small h 2 p zs.length
  rw [List.take_length] at h1 h2
  unfold ofAt
  simp only
  omega

/-- What holds while the best offer is sought. -/
structure PrI (w : World) (X : Nat) (zs : List O) (k : Nat) (b : Of) (wr : World) : Prop where
  ex : X = w.heap.size
  far : Below w.heap.size w wr
  row : wr.heap[X]? = some (.cells #[.int .i64 b.price, .int .i64 b.vol, .int .i64 b.over] 50 (0, 0))
  rest : best zs = bestF zs (zs.drop k) b
  few : -1000000 ≤ b.over ∧ b.over ≤ 1000000

/-- The price and the volume that Price tells. -/
def pP (zs : List O) : Int := if pE zs = 0 then (best zs).price else 0
def pV (zs : List O) : Int := if pE zs = 0 then (best zs).vol else 0

set_option maxHeartbeats 1000000 in
theorem price_bad (v : Value) (zs : List O) (w : World) (h : SL w v zs) (h0 : ¬ cE zs = 0) : Calls Tryd.prog 10 #[v] w fun e w' => e = .returned (.tuple #[.int .i64 (pP zs), .int .i64 (pV zs), errV (pE zs)]) ∧ Below w.heap.size w w' := by
  have e : pE zs = cE zs := by unfold pE; rw [if_neg h0]
  have HC := hidC (check_call v zs w h)
  rw [errV_of h0] at HC
  unfold pP pV
  rw [e, if_neg h0, if_neg h0, errV_of h0]
  generalize cE zs = K at *
  clear h e h0
  go_enter Tryd.func10, Tryd.ntmps10
  go_wp2_with fail
  refine HC.out.mono ?_
  rintro e w1 ⟨rfl, hb⟩
  have HB := hidC hb
  clear hb HC
  go_wp2_with fail
  go_ret3
  exact ⟨rfl, HB.out⟩

set_option maxHeartbeats 2000000 in
set_option maxRecDepth 100000 in
theorem price_fine (q : Option Addr) (n c : Nat) (zs : List O) (w : World) (hn : n = zs.length) (h : SL w (.slice q n c) zs) (h0 : cE zs = 0) (P V E : Int) (hE : E = if (best zs).vol = 0 then 5 else 0) (hP : P = if (best zs).vol = 0 then 0 else (best zs).price) (hV : V = if (best zs).vol = 0 then 0 else (best zs).vol) : Calls Tryd.prog 10 #[.slice q n c] w fun e w' => e = .returned (.tuple #[.int .i64 P, .int .i64 V, errV E]) ∧ Below w.heap.size w w' := by
  have HPVE : Hid (∀ b, best zs = b → E = (if b.vol = 0 then 5 else 0) ∧ P = (if b.vol = 0 then 0 else b.price) ∧ V = (if b.vol = 0 then 0 else b.vol)) := fun b e => by subst e; exact ⟨hE, hP, hV⟩
  clear hE hP hV
  have HC := hidC (check_call _ zs w h)
  rw [h0, errV_zero] at HC
  have hgd := good_of h0
  have HGD := hidC hgd
  have HN := hidC hn
  have HSL := hidC h
  clear h h0 hn hgd
  go_enter Tryd.func10, Tryd.ntmps10
  go_wp2_with fail
  refine HC.out.mono ?_
  rintro e w1 ⟨rfl, hb⟩
  have HB := hidC hb
  obtain ⟨X, hX⟩ : ∃ x, x = w1.heap.size := ⟨_, rfl⟩
  have H0 : Hid (PrI w1 X zs 0 ⟨0, 0, 0⟩ (w1.alloc (.cells #[.int .i64 0, .int .i64 0, .int .i64 0] 50))) := ⟨hX, (Below.refl _ _).alloc (Nat.le_refl _) _, by rw [hX]; exact heap_alloc_new w1 _, rfl, by decide⟩
  have HX := hidC hX
  have HSL1 := hidC (HSL.out.below hb)
  clear hb HC HSL
  go_wp2_with fail
  simp only [← hX]
  generalize w1.alloc (.cells #[.int .i64 0, .int .i64 0, .int .i64 0] 50) = W1 at H0 ⊢
  clear hX
  go_loopg [8, 9, 18] n (fun gg _ _ s18 wr => ∃ kk : Nat, kk ≤ n ∧ n - kk ≤ gg ∧ s18 = .int .i64 kk ∧ Aside (∃ b, PrI w1 X zs kk b wr))
  case atStart => exact ⟨0, Nat.zero_le _, by omega, rfl, _, H0.out⟩
  case round =>
    clear H0
    obtain ⟨kk, hkk, hg, rfl, HA⟩ := hrel
    obtain ⟨b, hI⟩ := HA.out
    by_cases hlt : kk < n
    · obtain ⟨G, o, rfl, hG, hL⟩ := sl_some HSL1.out (by omega)
      have hlz : kk < zs.length := by have := HN.out; omega
      have hltz : (kk : Int) < (n : Int) := by omega
      have hB := hI.far
      have hx := (hL.below hG hB) kk hlz
      have hf : Fine zs[kk]! := by rw [wak.getE zs kk hlz]; exact HGD.out.fine _ (List.getElem_mem _)
      have HOF : Hid (∀ V, Below w1.heap.size w1 V → Calls Tryd.prog 20 #[.slice (some ⟨G, o, none⟩) n c, .int .i64 (zs[kk]!).price] V fun e w' => e = .returned (ofV (ofAt zs (zs[kk]!).price)) ∧ Below V.heap.size V w') := fun V hV => offerAt_any _ zs _ V (HSL1.out.below hV) HGD.out hf.pr
      have HBT : Hid (∀ V, Calls Tryd.prog 23 #[ofV (ofAt zs (zs[kk]!).price), ofV b] V fun e w' => e = .returned (.bool (bet (ofAt zs (zs[kk]!).price) b)) ∧ Below V.heap.size V w') := fun V => better_any _ b V (ofAt_over HGD.out _) hI.few
      have HST : Hid (best zs = bestF zs (zs.drop (kk + 1)) (if bet (ofAt zs (zs[kk]!).price) b = true then ofAt zs (zs[kk]!).price else b)) := hI.rest.trans (bestF_step zs kk b hlz)
      have HFW := hidC (ofAt_over HGD.out (zs[kk]!).price)
      rcases hxx : zs[kk]! with ⟨a1, a2, a3, a4, a5, a6, a7, a8⟩
      rw [hxx] at hx HOF HBT HST HFW
      simp only at HOF HBT HST HFW
      generalize ofAt zs a5 = A at HOF HBT HST HFW
      obtain ⟨ap, av, ao⟩ := A
      obtain ⟨bp, bv, bo⟩ := b
      have HOF2 : Hid (∀ V, Below w1.heap.size w1 V → Calls Tryd.prog 20 #[.slice (some ⟨G, o, none⟩) n c, .int .i64 a5] V fun e w' => e = .returned (.agg #[.int .i64 ap, .int .i64 av, .int .i64 ao]) ∧ Below V.heap.size V w') := HOF.out
      have HBT2 : Hid (∀ V, Calls Tryd.prog 23 #[.agg #[.int .i64 ap, .int .i64 av, .int .i64 ao], .agg #[.int .i64 bp, .int .i64 bv, .int .i64 bo]] V fun e w' => e = .returned (.bool (bet ⟨ap, av, ao⟩ ⟨bp, bv, bo⟩)) ∧ Below V.heap.size V w') := HBT.out
      generalize bet ⟨ap, av, ao⟩ ⟨bp, bv, bo⟩ = M at HBT2 HST
      have x0 := hx 0 _ rfl
      have x1 := hx 1 _ rfl
      have x2 := hx 2 _ rfl
      have x3 := hx 3 _ rfl
      have x4 := hx 4 _ rfl
      have x5 := hx 5 _ rfl
      have x6 := hx 6 _ rfl
      have x7 := hx 7 _ rfl
      simp only [Nat.add_zero] at x0
      have HM : Hid (kk < n ∧ n - kk ≤ gk ∧ kk ≤ 5000) := ⟨hlt, hg, by have := HGD.out.few; omega⟩
      have ei := succW kk HM.out.2.2
      have HI := hidC hI
      have HA0 : Hid (Below wr.heap.size wr (wr.alloc (.cells #[.int .i64 a1, .int .i64 a2, .int .i64 a3, .int .i64 a4, .int .i64 a5, .int .i64 a6, .int .i64 a7, .int .i64 a8] 44))) := (Below.refl _ _).alloc (Nat.le_refl _) _
      clear hx hxx hB HA hkk hg hlz hf hI HOF HBT hL hG hlt
      go_wp2_with fail
      clear x0 x1 x2 x3 x4 x5 x6 x7
      refine (HOF2.out _ (HI.out.far.trans (HA0.out.mono HI.out.far.size))).mono ?_
      rintro e W2 ⟨rfl, hb2⟩
      have HB2 := hidC (HA0.out.trans (hb2.mono HA0.out.size))
      have hR2 : W2.heap[X]? = some (.cells #[.int .i64 bp, .int .i64 bv, .int .i64 bo] 50 (0, 0)) := (HB2.out.block X (Array.getElem?_eq_some_iff.1 HI.out.row).1).trans HI.out.row
      obtain ⟨d0, d1, d2, df⟩ := rowThree hR2
      have hz2 : X < W2.heap.size := (Array.getElem?_eq_some_iff.1 hR2).1
      have HB3 : Hid (Below wr.heap.size wr (W2.alloc (.cells #[.int .i64 ap, .int .i64 av, .int .i64 ao] 50))) := HB2.out.alloc HB2.out.size _
      have HY : Hid ((W2.alloc (.cells #[.int .i64 ap, .int .i64 av, .int .i64 ao] 50)).heap[W2.heap.size]? = some (.cells #[.int .i64 ap, .int .i64 av, .int .i64 ao] 50 (0, 0))) := heap_alloc_new W2 _
      clear hb2 HOF2 hR2 HA0
      go_wp2_with fail
      clear d0 d1 d2 df hz2
      refine (HBT2.out _).mono ?_
      rintro e W3 ⟨rfl, hb3⟩
      have HB4 := hidC (HB3.out.trans (hb3.mono HB3.out.size))
      have hR3 : W3.heap[X]? = some (.cells #[.int .i64 bp, .int .i64 bv, .int .i64 bo] 50 (0, 0)) := (HB4.out.block X (Array.getElem?_eq_some_iff.1 HI.out.row).1).trans HI.out.row
      have hY3 : W3.heap[W2.heap.size]? = some (.cells #[.int .i64 ap, .int .i64 av, .int .i64 ao] 50 (0, 0)) := (hb3.block _ (Array.getElem?_eq_some_iff.1 HY.out).1).trans HY.out
      have HFR : Hid (Below w1.heap.size w1 W3) := HI.out.far.trans (HB4.out.mono HI.out.far.size)
      generalize W2.heap.size = Y at hY3 ⊢
      clear hb3 HBT2 HB3 HY HB2
      cases M with
      | false =>
        have HNX : Hid (PrI w1 X zs (kk + 1) ⟨bp, bv, bo⟩ W3) := ⟨HI.out.ex, HFR.out, hR3, by have h := HST.out; simpa using h, HI.out.few⟩
        clear hR3 hY3
        go_wp2_with fail
        go_roundg (n - (kk + 1))
        case measure => have := HM.out; clear ei; omega
        case rel => exact ⟨kk + 1, HM.out.1, Nat.le_refl _, by first | rfl | exact congrArg (Value.int .i64) ei, _, HNX.out⟩
      | true =>
        have HNX : Hid (PrI w1 X zs (kk + 1) ⟨ap, av, ao⟩ (((W3.setCell ⟨X, 0, none⟩ (.int .i64 ap)).setCell ⟨X, 1, none⟩ (.int .i64 av)).setCell ⟨X, 2, none⟩ (.int .i64 ao))) := ⟨HI.out.ex, belThree HFR.out (Nat.le_of_eq HI.out.ex.symm) _ _ _, setThree hR3 _ _ _, by have h := HST.out; simpa using h, HFW.out⟩
        obtain ⟨d0, d1, d2, df⟩ := rowThree hR3
        obtain ⟨y0, y1, y2, -⟩ := rowThree hY3
        clear hR3 hY3
        go_wp2_with fail
        generalize (((W3.setCell ⟨X, 0, none⟩ (.int .i64 ap)).setCell ⟨X, 1, none⟩ (.int .i64 av)).setCell ⟨X, 2, none⟩ (.int .i64 ao)) = W9 at HNX ⊢
        clear d0 d1 d2 df y0 y1 y2
        go_roundg (n - (kk + 1))
        case measure => have := HM.out; clear ei; omega
        case rel => exact ⟨kk + 1, HM.out.1, Nat.le_refl _, by first | rfl | exact congrArg (Value.int .i64) ei, _, HNX.out⟩
    · have hke : kk = n := by omega
      subst hke
      have hltz : ¬ (kk : Int) < (kk : Int) := by omega
      have hbe : best zs = b := by
        have h := hI.rest
        rw [HN.out, List.drop_length] at h
        exact h
      obtain ⟨d0, d1, d2, -⟩ := rowThree hI.row
      have HF := hidC (HB.out.trans (hI.far.mono HB.out.size))
      obtain ⟨e1, e2, e3⟩ := HPVE.out b hbe
      obtain ⟨bp, bv, bo⟩ := b
      simp only at d0 d1 d2 e1 e2 e3
      clear HA hkk hg hlt hI hbe d2
      by_cases hv : bv = 0
      · subst hv
        rw [if_pos rfl] at e1 e2 e3
        have HEE : Hid (E = 5 ∧ P = 0 ∧ V = 0) := ⟨e1, e2, e3⟩
        clear e1 e2 e3 HPVE
        go_wp2_with fail
        go_ret3
        exact ⟨by rw [HEE.out.1, HEE.out.2.1, HEE.out.2.2]; rfl, HF.out⟩
      · have hv' : (bv == 0) = false := by simpa using hv
        rw [if_neg hv] at e1 e2 e3
        have HEE : Hid (E = 0 ∧ P = bp ∧ V = bv) := ⟨e1, e2, e3⟩
        clear hv e1 e2 e3 HPVE
        go_wp2_with fail
        go_quiet (fail)
        have hfin := (⟨HF.out.os, HF.out.tape, HF.out.output, HF.out.size, HF.out.block⟩ : Below w.heap.size w (wr.drewN nq))
        go_wp2_with fail
        go_ret3
        exact ⟨by rw [HEE.out.1, HEE.out.2.1, HEE.out.2.2]; rfl, hfin⟩
theorem price_call (v : Value) (zs : List O) (w : World) (h : SL w v zs) : Calls Tryd.prog 10 #[v] w fun e w' => e = .returned (.tuple #[.int .i64 (pP zs), .int .i64 (pV zs), errV (pE zs)]) ∧ Below w.heap.size w w' := by
  by_cases h0 : cE zs = 0
  · obtain ⟨q, c, rfl⟩ := sl_form h
    have e : pE zs = if (best zs).vol = 0 then 5 else 0 := by unfold pE; rw [if_pos h0]
    have e1 : pP zs = if (best zs).vol = 0 then 0 else (best zs).price := by unfold pP; rw [e]; split <;> simp
    have e2 : pV zs = if (best zs).vol = 0 then 0 else (best zs).vol := by unfold pV; rw [e]; split <;> simp
    exact price_fine q zs.length c zs w rfl h h0 _ _ _ e e1 e2
  · exact price_bad v zs w h h0

/-- Volume's error, and what it tells. -/
def vE (zs : List O) (p : Int) : Int := if cE zs = 0 then (if prB p = true then 0 else 1) else cE zs
def vV (zs : List O) (p : Int) : Int := if vE zs p = 0 then (ofAt zs p).vol else 0
def vO (zs : List O) (p : Int) : Int := if vE zs p = 0 then (ofAt zs p).over else 0

set_option maxHeartbeats 1000000 in
theorem volume_bad (v : Value) (zs : List O) (p : Int) (w : World) (h : SL w v zs) (h0 : ¬ cE zs = 0) : Calls Tryd.prog 7 #[v, .int .i64 p] w fun e w' => e = .returned (.tuple #[.int .i64 (vV zs p), .int .i64 (vO zs p), errV (vE zs p)]) ∧ Below w.heap.size w w' := by
  have e : vE zs p = cE zs := by unfold vE; rw [if_neg h0]
  have HC := hidC (check_call v zs w h)
  rw [errV_of h0] at HC
  unfold vV vO
  rw [e, if_neg h0, if_neg h0, errV_of h0]
  generalize cE zs = K at *
  clear h e h0
  go_enter Tryd.func7, Tryd.ntmps7
  go_wp2_with fail
  refine HC.out.mono ?_
  rintro e w1 ⟨rfl, hb⟩
  have HB := hidC hb
  clear hb HC
  go_wp2_with fail
  go_ret3
  exact ⟨rfl, HB.out⟩
set_option maxHeartbeats 1000000 in
theorem volume_price (v : Value) (zs : List O) (p : Int) (w : World) (h : SL w v zs) (h0 : cE zs = 0) (hp : prB p = false) : Calls Tryd.prog 7 #[v, .int .i64 p] w fun e w' => e = .returned (.tuple #[.int .i64 (vV zs p), .int .i64 (vO zs p), errV (vE zs p)]) ∧ Below w.heap.size w w' := by
  have e : vE zs p = 1 := by unfold vE; rw [if_pos h0, hp]; rfl
  have HC := hidC (check_call v zs w h)
  rw [h0, errV_zero] at HC
  unfold vV vO
  rw [e, if_neg (by decide), if_neg (by decide), errV_one]
  have HP := hidC (fun W => price_no p W hp)
  clear h e h0 hp
  go_enter Tryd.func7, Tryd.ntmps7
  go_wp2_with fail
  refine HC.out.mono ?_
  rintro e w1 ⟨rfl, hb⟩
  have HB := hidC hb
  clear hb HC
  go_wp2_with fail
  refine (HP.out _).mono ?_
  rintro e w2 ⟨rfl, hb⟩
  have HB2 := hidC (HB.out.trans (hb.mono HB.out.size))
  clear hb HB
  go_wp2_with fail
  go_ret3
  exact ⟨rfl, HB2.out⟩
set_option maxHeartbeats 1000000 in
theorem volume_fine (v : Value) (zs : List O) (p : Int) (w : World) (h : SL w v zs) (h0 : cE zs = 0) (hp : prB p = true) : Calls Tryd.prog 7 #[v, .int .i64 p] w fun e w' => e = .returned (.tuple #[.int .i64 (vV zs p), .int .i64 (vO zs p), errV (vE zs p)]) ∧ Below w.heap.size w w' := by
  have e : vE zs p = 0 := by unfold vE; rw [if_pos h0, hp]; rfl
  have HC := hidC (check_call v zs w h)
  rw [h0, errV_zero] at HC
  unfold vV vO
  rw [e, if_pos rfl, if_pos rfl, errV_zero]
  have HP := hidC (fun W => price_ok p W hp)
  have HO : Hid (∀ V, Below w.heap.size w V → Calls Tryd.prog 20 #[v, .int .i64 p] V fun e w' => e = .returned (ofV (ofAt zs p)) ∧ Below V.heap.size V w') := fun V hV => offerAt_any _ zs _ V (h.below hV) (good_of h0) hp
  generalize ofAt zs p = A at *
  obtain ⟨ap, av, ao⟩ := A
  have HO2 : Hid (∀ V, Below w.heap.size w V → Calls Tryd.prog 20 #[v, .int .i64 p] V fun e w' => e = .returned (.agg #[.int .i64 ap, .int .i64 av, .int .i64 ao]) ∧ Below V.heap.size V w') := HO.out
  clear h e h0 hp HO
  go_enter Tryd.func7, Tryd.ntmps7
  go_wp2_with fail
  refine HC.out.mono ?_
  rintro e w1 ⟨rfl, hb⟩
  have HB := hidC hb
  clear hb HC
  go_wp2_with fail
  refine (HP.out _).mono ?_
  rintro e w2 ⟨rfl, hb⟩
  have HB2 := hidC (HB.out.trans (hb.mono HB.out.size))
  clear hb HB
  go_wp2_with fail
  refine (HO2.out _ HB2.out).mono ?_
  rintro e w3 ⟨rfl, hb⟩
  have HB3 := hidC (HB2.out.trans (hb.mono HB2.out.size))
  have HB4 : Hid (Below w.heap.size w (w3.alloc (.cells #[.int .i64 ap, .int .i64 av, .int .i64 ao] 50))) := HB3.out.alloc HB3.out.size _
  obtain ⟨y0, y1, y2, -⟩ := rowThree (heap_alloc_new w3 (.cells #[.int .i64 ap, .int .i64 av, .int .i64 ao] 50))
  clear hb HB2 HB3
  go_upto_region 8 with fail
  generalize (w3.alloc (.cells #[.int .i64 ap, .int .i64 av, .int .i64 ao] 50)) = W4 at HB4 y0 y1 y2 ⊢
  generalize w3.heap.size = Y at y0 y1 y2 ⊢
  go_quiet (fail)
  have hfin := (⟨HB4.out.os, HB4.out.tape, HB4.out.output, HB4.out.size, HB4.out.block⟩ : Below w.heap.size w (W4.drewN nq))
  go_wp2_with fail
  go_ret3
  exact ⟨rfl, hfin⟩
theorem volume_call (v : Value) (zs : List O) (p : Int) (w : World) (h : SL w v zs) : Calls Tryd.prog 7 #[v, .int .i64 p] w fun e w' => e = .returned (.tuple #[.int .i64 (vV zs p), .int .i64 (vO zs p), errV (vE zs p)]) ∧ Below w.heap.size w w' := by
  by_cases h0 : cE zs = 0
  · cases hp : prB p with
    | true => exact volume_fine v zs p w h h0 hp
    | false => exact volume_price v zs p w h h0 hp
  · exact volume_bad v zs p w h h0
end Go.Proofs.YtabcfmpmkdoieaaDoor.cal
