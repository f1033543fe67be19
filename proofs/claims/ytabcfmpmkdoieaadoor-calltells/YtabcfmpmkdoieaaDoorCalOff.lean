/- Contracts over this seat's translation: call.wanted, call.offerAt, (offer).apart, (offer).better. -/
import Derived.Test.YtabcfmpmkdoieaaDoorCalPure
import Derived.Test.YtabcfmpmkdoieaaDoorCalSwr
namespace Go.Proofs.YtabcfmpmkdoieaaDoor.cal
open Go.RowKit Go.Proofs.YtabcfmpmkdoieaaDoor.ord
open Go.Proofs.YtabcfmpmkdoieaaDoor.wak (Lies SL oL OwnM OwnQ flat oL_agg gr_setCell)
open Go.Proofs.YtabcfmpmkdoieaaDoor.spn (keeps bcell)

/-- The three cells of what is wanted. -/
abbrev wnt (a b : Int) : Array Value := #[.int .i64 0, .int .i64 a, .int .i64 b]
/-- What holds while it is counted. -/
structure WtI (w : World) (X : Nat) (p : Int) (zs : List O) (k : Nat) (wr : World) : Prop where
  ex : X = w.heap.size
  far : Below w.heap.size w wr
  one : wr.heap[X]? = some (.cells (wnt 0 0) 71 (0, 0))
  two : wr.heap[X + 1]? = some (.cells (wnt (ws 1 p (zs.take k)) (ws 2 p (zs.take k))) 71 (0, 0))
theorem row3 {w : World} {X : Nat} {a b : Int} {T : TypeId} (h : w.heap[X]? = some (.cells (wnt a b) T (0, 0))) : w.cell? ⟨X, 0, none⟩ = some (.int .i64 0) ∧ w.cell? ⟨X, 1, none⟩ = some (.int .i64 a) ∧ w.cell? ⟨X, 2, none⟩ = some (.int .i64 b) ∧ (∀ o, w.frozen? ⟨X, o, none⟩ = false) ∧ X < w.heap.size := by
  refine ⟨by simp [World.cell?, h], by simp [World.cell?, h], by simp [World.cell?, h], fun o => by simp [World.frozen?, h], (Array.getElem?_eq_some_iff.1 h).1⟩
theorem setThree {w : World} {B : Nat} {y0 y1 y2 : Value} {t : TypeId} (h : w.heap[B]? = some (.cells #[y0, y1, y2] t (0, 0))) (x0 x1 x2 : Value) :
    (((w.setCell ⟨B, 0, none⟩ x0).setCell ⟨B, 1, none⟩ x1).setCell ⟨B, 2, none⟩ x2).heap[B]? = some (.cells #[x0, x1, x2] t (0, 0)) := by
  have h0 := heap_setCell_same w B 0 _ _ x0 h
  have h1 := heap_setCell_same _ B 1 _ _ x1 h0
  have h2 := heap_setCell_same _ B 2 _ _ x2 h1
  exact h2
theorem rowThree {w : World} {B : Nat} {x0 x1 x2 : Value} {t : TypeId} (h : w.heap[B]? = some (.cells #[x0, x1, x2] t (0, 0))) :
    w.cell? ⟨B, 0, none⟩ = some x0 ∧ w.cell? ⟨B, 1, none⟩ = some x1 ∧ w.cell? ⟨B, 2, none⟩ = some x2 ∧ ∀ j, w.frozen? ⟨B, j, none⟩ = false :=
  ⟨by simp [World.cell?, h], by simp [World.cell?, h], by simp [World.cell?, h], fun j => frozen_of_row w _ j _ _ h⟩
theorem grThree (w : World) (B : Nat) (x0 x1 x2 : Value) : w.grownBy (((w.setCell ⟨B, 0, none⟩ x0).setCell ⟨B, 1, none⟩ x1).setCell ⟨B, 2, none⟩ x2) (some B) :=
  wak.gr_trans (wak.gr_trans (gr_setCell _ _ _ _) (gr_setCell _ _ _ _)) (gr_setCell _ _ _ _)
theorem belThree {w wr : World} {B : Nat} (h : Below w.heap.size w wr) (hB : w.heap.size ≤ B) (x0 x1 x2 : Value) : Below w.heap.size w (((wr.setCell ⟨B, 0, none⟩ x0).setCell ⟨B, 1, none⟩ x1).setCell ⟨B, 2, none⟩ x2) :=
  h.grown (grThree wr B x0 x1 x2) h.size (fun k hk => by cases hk; exact hB)
theorem WtI.on {w wr w' : World} {X k : Nat} {p : Int} {zs : List O} (h : WtI w X p zs k wr) (hB : Below wr.heap.size wr w') : WtI w X p zs k w' :=
  ⟨h.ex, h.far.trans (hB.mono h.far.size), (hB.block _ (row3 h.one).2.2.2.2).trans h.one, (hB.block _ (row3 h.two).2.2.2.2).trans h.two⟩
theorem WtI.skip {w wr : World} {X k : Nat} {p : Int} {zs : List O} (h : WtI w X p zs k wr) (hk : k < zs.length) (hm : at_ zs[k]! p = false) : WtI w X p zs (k + 1) wr :=
  ⟨h.ex, h.far, h.one, by
    have e : ∀ s, ws s p (zs.take (k + 1)) = ws s p (zs.take k) := fun s => by rw [ws_take s p zs k hk, if_neg (fun x => by rw [hm] at x; exact absurd x.2 (by decide)), Int.add_zero]
    rw [e, e]; exact h.two⟩
theorem WtI.buy {w wr : World} {X k : Nat} {p : Int} {zs : List O} (h : WtI w X p zs k wr) (hk : k < zs.length) (hm : at_ zs[k]! p = true) (hs : (zs[k]!).side = 1) : WtI w X p zs (k + 1) (wr.setCell ⟨X + 1, 1, none⟩ (.int .i64 (ws 1 p (zs.take k) + (zs[k]!).qty))).drew := by
  have hg := gr_setCell wr (X + 1) 1 (.int .i64 (ws 1 p (zs.take k) + (zs[k]!).qty))
  have hz := (row3 h.one).2.2.2.2
  have hx := h.ex
  refine ⟨h.ex, ⟨hg.os.trans h.far.os, hg.tape.trans h.far.tape, hg.output.trans h.far.output, Nat.le_trans h.far.size hg.size, fun j hj => (hg.block j (by have := h.far.size; omega) (fun e => by cases e; omega)).trans (h.far.block j hj)⟩, (hg.block X hz (fun e => by injection e with e; omega)).trans h.one, ?_⟩
  rw [ws_take 1 p zs k hk, ws_take 2 p zs k hk, if_pos ⟨hs, hm⟩, if_neg (fun x => by rw [hs] at x; exact absurd x.1 (by decide)), Int.add_zero]
  exact heap_setCell_same wr (X + 1) 1 _ _ _ h.two
theorem WtI.sell {w wr : World} {X k : Nat} {p : Int} {zs : List O} (h : WtI w X p zs k wr) (hk : k < zs.length) (hm : at_ zs[k]! p = true) (hs : (zs[k]!).side = 2) : WtI w X p zs (k + 1) (wr.setCell ⟨X + 1, 2, none⟩ (.int .i64 (ws 2 p (zs.take k) + (zs[k]!).qty))).drew := by
  have hg := gr_setCell wr (X + 1) 2 (.int .i64 (ws 2 p (zs.take k) + (zs[k]!).qty))
  have hz := (row3 h.one).2.2.2.2
  have hx := h.ex
  refine ⟨h.ex, ⟨hg.os.trans h.far.os, hg.tape.trans h.far.tape, hg.output.trans h.far.output, Nat.le_trans h.far.size hg.size, fun j hj => (hg.block j (by have := h.far.size; omega) (fun e => by cases e; omega)).trans (h.far.block j hj)⟩, (hg.block X hz (fun e => by injection e with e; omega)).trans h.one, ?_⟩
  rw [ws_take 1 p zs k hk, ws_take 2 p zs k hk, if_neg (fun x => by rw [hs] at x; exact absurd x.1 (by decide)), if_pos ⟨hs, hm⟩, Int.add_zero]
  exact heap_setCell_same wr (X + 1) 2 _ _ _ h.two

set_option maxHeartbeats 2000000 in
set_option maxRecDepth 100000 in
theorem wanted_some (G o n c : Nat) (zs : List O) (p : Int) (w : World) (hn : n = zs.length) (hgd : Good zs) (hp : prB p = true) (hG : G < w.heap.size) (hL : Lies w G o zs) :
    Calls Tryd.prog 34 #[.slice (some ⟨G, o, none⟩) n c, .int .i64 p] w fun e w' => e = .returned (.agg (wnt (ws 1 p zs) (ws 2 p zs))) ∧ Below w.heap.size w w' := by
  have HGD := hidC hgd
  have HN := hidC hn
  have HPR := hidC hp
  have HGG := hidC hG
  have HL := hidC hL
  obtain ⟨X, hX⟩ : ∃ x, x = w.heap.size := ⟨_, rfl⟩
  have H0 : Hid (WtI w X p zs 0 ((w.alloc (.cells (wnt 0 0) 71)).alloc (.cells (wnt 0 0) 71))) := by
    rw [hX]
    refine ⟨rfl, (((Below.refl _ _).alloc (Nat.le_refl _) _).alloc (by simp) _), ?_, ?_⟩
    · exact (Below.heap_alloc (w.alloc _) _ _ (by simp)).trans (heap_alloc_new w _)
    · have := heap_alloc_new (w.alloc (.cells (wnt 0 0) 71)) (.cells (wnt 0 0) 71)
      simpa [ws] using this
  have HX := hidC hX
  clear hgd hn hp hG hL
  go_enter Tryd.func34, Tryd.ntmps34
  go_wp2_with fail
  simp only [← hX]
  generalize ((w.alloc (.cells (wnt 0 0) 71)).alloc (.cells (wnt 0 0) 71)) = W1 at H0 ⊢
  clear hX
  go_loopg [7, 8, 9, 12] n (fun gg _ _ _ s12 wr => ∃ kk : Nat, kk ≤ n ∧ n - kk ≤ gg ∧ s12 = .int .i64 kk ∧ Aside (WtI w X p zs kk wr))
  case atStart => exact ⟨0, Nat.zero_le _, by omega, rfl, H0.out⟩
  case round =>
    clear H0
    obtain ⟨kk, hkk, hg, rfl, HA⟩ := hrel
    by_cases hlt : kk < n
    · have hlz : kk < zs.length := by have := HN.out; omega
      have hltz : (kk : Int) < (n : Int) := by omega
      have hW := HA.out
      have hB := hW.far
      have hLr : Lies wr G o zs := HL.out.below HGG.out hB
      have hx := hLr kk hlz
      have hf : Fine zs[kk]! := by rw [wak.getE zs kk hlz]; exact HGD.out.fine _ (List.getElem_mem _)
      have hbd := hf.bounds
      have HME : Hid (∀ V, Calls Tryd.prog 49 #[.agg (oL zs[kk]!).toArray, .int .i64 p] V fun e w' => e = .returned (.tuple #[.bool (at_ zs[kk]! p), .nilIface]) ∧ Below V.heap.size V w') := fun V => by
        have h := meets_any zs[kk]! p V
        rw [hf.meets p HPR.out, if_pos rfl, hf.mB p, errV_zero] at h
        exact h
      have HSK := hidC (fun (V : World) (hV : WtI w X p zs kk V) (hm : at_ zs[kk]! p = false) => hV.skip hlz hm)
      have HBU := hidC (fun (V : World) (hV : WtI w X p zs kk V) (hm : at_ zs[kk]! p = true) (hs : (zs[kk]!).side = 1) => hV.buy hlz hm hs)
      have HSE := hidC (fun (V : World) (hV : WtI w X p zs kk V) (hm : at_ zs[kk]! p = true) (hs : (zs[kk]!).side = 2) => hV.sell hlz hm hs)
      have hS1 := ws_small HGD.out 1 p kk
      have hS2 := ws_small HGD.out 2 p kk
      rcases hxx : zs[kk]! with ⟨a1, a2, a3, a4, a5, a6, a7, a8⟩
      rw [hxx] at hx HME HSK HBU HSE hbd
      have HME2 : Hid (∀ V, Calls Tryd.prog 49 #[.agg #[.int .i64 a1, .int .i64 a2, .int .i64 a3, .int .i64 a4, .int .i64 a5, .int .i64 a6, .int .i64 a7, .int .i64 a8], .int .i64 p] V fun e w' => e = .returned (.tuple #[.bool (at_ ⟨a1, a2, a3, a4, a5, a6, a7, a8⟩ p), .nilIface]) ∧ Below V.heap.size V w') := HME.out
      generalize at_ ⟨a1, a2, a3, a4, a5, a6, a7, a8⟩ p = M at HME2 HSK HBU HSE
      generalize hA1 : ws 1 p (zs.take kk) = S1 at HBU HSE hS1
      generalize hA2 : ws 2 p (zs.take kk) = S2 at HBU HSE hS2
      have x0 := hx 0 _ rfl
      have x1 := hx 1 _ rfl
      have x2 := hx 2 _ rfl
      have x3 := hx 3 _ rfl
      have x4 := hx 4 _ rfl
      have x5 := hx 5 _ rfl
      have x6 := hx 6 _ rfl
      have x7 := hx 7 _ rfl
      simp only [Nat.add_zero] at x0
      simp only at hbd
      have HM : Hid (kk < n ∧ n - kk ≤ gk ∧ kk ≤ 5000) := ⟨hlt, hg, by have := HGD.out.few; omega⟩
      have ei := succW kk HM.out.2.2
      have hsd : a3 = 1 ∨ a3 = 2 := hbd.1
      have w1 := wrapI (S1 + a6) _ rfl (by clear ei; omega) (by clear ei; omega)
      have w2 := wrapI (S2 + a6) _ rfl (by clear ei w1; omega) (by clear ei w1; omega)
      have HW := hidC hW
      have HAA : Hid (ws 1 p (zs.take kk) = S1 ∧ ws 2 p (zs.take kk) = S2) := ⟨hA1, hA2⟩
      clear hx hxx hLr hB HA hkk hg hlz hf hbd HME hS1 hS2 hW hA1 hA2 hlt
      go_wp2_with fail
      refine (HME2.out _).mono ?_
      rintro e W2 ⟨rfl, hb2⟩
      have hB2 : Below wr.heap.size wr W2 := ((Below.refl _ _).alloc (Nat.le_refl _) _).trans (hb2.mono (by simp))
      have hR : W2.heap[wr.heap.size]? = some (.cells #[.int .i64 a1, .int .i64 a2, .int .i64 a3, .int .i64 a4, .int .i64 a5, .int .i64 a6, .int .i64 a7, .int .i64 a8] 44 (0, 0)) := (hb2.block _ (by simp)).trans (heap_alloc_new wr _)
      have HWT := hidC (HW.out.on hB2)
      generalize wr.heap.size = Z at hR ⊢
      have z2 : W2.cell? ⟨Z, 2, none⟩ = some (.int .i64 a3) := by simp [World.cell?, hR]
      have z5 : W2.cell? ⟨Z, 5, none⟩ = some (.int .i64 a6) := by simp [World.cell?, hR]
      obtain ⟨-, y1, y2, yf, -⟩ := row3 HWT.out.two
      rw [HAA.out.1] at y1
      rw [HAA.out.2] at y2
      have yf1 := yf 1
      have yf2 := yf 2
      have mixed := mixed
      clear hb2 hB2 hR x0 x1 x2 x3 x4 x5 x6 x7 HW HME2 yf
      cases M with
      | false =>
        have HNX := hidC (HSK.out _ HWT.out rfl)
        clear HWT z2 z5 y1 y2 yf1 yf2
        go_wp2_with fail
        go_roundg (n - (kk + 1))
        case measure => have := HM.out; clear ei w1 w2; omega
        case rel => exact ⟨kk + 1, HM.out.1, Nat.le_refl _, by first | rfl | exact congrArg (Value.int .i64) ei, HNX.out⟩
      | true =>
        rcases hsd with rfl | rfl
        · have HNX := hidC (HBU.out _ HWT.out rfl rfl)
          clear HWT
          go_wp2_with fail
          go_big_region_o
          generalize (W2.setCell ⟨X + 1, 1, none⟩ (.int .i64 (S1 + a6))).drew = w3 at HNX ⊢
          clear z2 z5 y1 y2 yf1 yf2
          go_wp2_with fail
          go_roundg (n - (kk + 1))
          case measure => have := HM.out; clear ei w1 w2; omega
          case rel => exact ⟨kk + 1, HM.out.1, Nat.le_refl _, by first | rfl | exact congrArg (Value.int .i64) ei, HNX.out⟩
        · have HNX := hidC (HSE.out _ HWT.out rfl rfl)
          clear HWT
          go_wp2_with fail
          go_big_region_o
          generalize (W2.setCell ⟨X + 1, 2, none⟩ (.int .i64 (S2 + a6))).drew = w3 at HNX ⊢
          clear z2 z5 y1 y2 yf1 yf2
          go_wp2_with fail
          go_roundg (n - (kk + 1))
          case measure => have := HM.out; clear ei w1 w2; omega
          case rel => exact ⟨kk + 1, HM.out.1, Nat.le_refl _, by first | rfl | exact congrArg (Value.int .i64) ei, HNX.out⟩
    · have hke : kk = n := by omega
      subst hke
      have hltz : ¬ (kk : Int) < (kk : Int) := by omega
      have hW := HA.out
      have hB := hW.far
      obtain ⟨u0, u1, u2, uf, uz⟩ := row3 hW.two
      rw [HN.out, List.take_length] at u1 u2
      generalize hS1 : ws 1 p zs = S1 at u1
      generalize hS2 : ws 2 p zs = S2 at u2
      have HS12 : Hid (ws 1 p zs = S1 ∧ ws 2 p zs = S2) := ⟨hS1, hS2⟩
      clear hS1 hS2
      have hR := hW.one
      obtain ⟨d0, d1, d2, df⟩ := rowThree hR
      have HROW := hidC (setThree hR (.int .i64 0) (.int .i64 S1) (.int .i64 S2))
      have HBL := hidC (belThree hW.far (Nat.le_of_eq hW.ex.symm) (.int .i64 0) (.int .i64 S1) (.int .i64 S2))
      clear HA hkk hg hlt hW hB hR uz
      go_wp2_with fail
      clear u0 u1 u2 uf d0 d1 d2 df
      generalize (((wr.setCell ⟨X, 0, none⟩ (.int .i64 0)).setCell ⟨X, 1, none⟩ (.int .i64 S1)).setCell ⟨X, 2, none⟩ (.int .i64 S2)) = W9 at HROW HBL ⊢
      obtain ⟨y0, y1, y2, -⟩ := rowThree HROW.out
      exact bodyPost_ret (v := .agg #[.int .i64 0, .int .i64 S1, .int .i64 S2]) (by simp [results, Tryd.results34, go_sem, y0, y1, y2]) rfl ⟨by rw [HS12.out.1, HS12.out.2], HBL.out⟩

theorem wanted_nil (p : Int) (w : World) : Calls Tryd.prog 34 #[.slice none 0 0, .int .i64 p] w fun e w' => e = .returned (.agg (wnt (ws 1 p []) (ws 2 p []))) ∧ Below w.heap.size w w' := by
  go_enter Tryd.func34, Tryd.ntmps34
  go_wp2_with fail
  obtain ⟨X, hX⟩ : ∃ x, x = w.heap.size := ⟨_, rfl⟩
  have H0 : Hid (WtI w X p [] 0 ((w.alloc (.cells (wnt 0 0) 71)).alloc (.cells (wnt 0 0) 71))) := by
    rw [hX]
    refine ⟨rfl, (((Below.refl _ _).alloc (Nat.le_refl _) _).alloc (by simp) _), ?_, ?_⟩
    · exact (Below.heap_alloc (w.alloc _) _ _ (by simp)).trans (heap_alloc_new w _)
    · have := heap_alloc_new (w.alloc (.cells (wnt 0 0) 71)) (.cells (wnt 0 0) 71)
      simpa [ws] using this
  simp only [← hX]
  generalize ((w.alloc (.cells (wnt 0 0) 71)).alloc (.cells (wnt 0 0) 71)) = W1 at H0 ⊢
  go_loopg [7, 8, 9, 12] 0 (fun _ _ _ _ s12 wr => s12 = .int .i64 0 ∧ wr = W1)
  case atStart => exact ⟨rfl, rfl⟩
  case round =>
    obtain ⟨rfl, rfl⟩ := hrel
    have hW := H0.out
    obtain ⟨d0, d1, d2, df⟩ := rowThree hW.one
    obtain ⟨u0, u1, u2, uf, -⟩ := row3 hW.two
    simp only [List.take_nil, ws] at u1 u2
    have HROW := hidC (setThree hW.one (.int .i64 0) (.int .i64 0) (.int .i64 0))
    have HBL := hidC (belThree hW.far (Nat.le_of_eq hW.ex.symm) (.int .i64 0) (.int .i64 0) (.int .i64 0))
    clear hW H0 hX
    go_wp2_with fail
    clear u0 u1 u2 uf d0 d1 d2 df
    generalize (((wr.setCell ⟨X, 0, none⟩ (.int .i64 0)).setCell ⟨X, 1, none⟩ (.int .i64 0)).setCell ⟨X, 2, none⟩ (.int .i64 0)) = W9 at HROW HBL ⊢
    obtain ⟨y0, y1, y2, -⟩ := rowThree HROW.out
    exact bodyPost_ret (v := .agg #[.int .i64 0, .int .i64 0, .int .i64 0]) (by simp [results, Tryd.results34, go_sem, y0, y1, y2]) rfl ⟨rfl, HBL.out⟩
theorem wanted_any (v : Value) (zs : List O) (p : Int) (w : World) (h : SL w v zs) (hgd : Good zs) (hp : prB p = true) : Calls Tryd.prog 34 #[v, .int .i64 p] w fun e w' => e = .returned (.agg #[.int .i64 0, .int .i64 (ws 1 p zs), .int .i64 (ws 2 p zs)]) ∧ Below w.heap.size w w' := by
  rcases h with ⟨rfl, rfl⟩ | ⟨b, o, c, rfl, h2, h3, h4, h5⟩
  · exact wanted_nil p w
  · exact wanted_some b o zs.length c zs p w rfl hgd hp h4 h5

/-- The value of an offer. -/
def ofV (a : Of) : Value := .agg #[.int .i64 a.price, .int .i64 a.vol, .int .i64 a.over]

set_option maxHeartbeats 1000000 in
theorem offerAt_any (v : Value) (zs : List O) (p : Int) (w : World) (h : SL w v zs) (hgd : Good zs) (hp : prB p = true) : Calls Tryd.prog 20 #[v, .int .i64 p] w fun e w' => e = .returned (ofV (ofAt zs p)) ∧ Below w.heap.size w w' := by
  have HWA : Hid (∀ V, Below w.heap.size w V → Calls Tryd.prog 34 #[v, .int .i64 p] V fun e w' => e = .returned (.agg #[.int .i64 0, .int .i64 (ws 1 p zs), .int .i64 (ws 2 p zs)]) ∧ Below V.heap.size V w') := fun V hV => wanted_any v zs p V (h.below hV) hgd hp
  have hs1 := ws_small hgd 1 p zs.length
  have hs2 := ws_small hgd 2 p zs.length
  rw [List.take_length] at hs1 hs2
  unfold ofAt ofV
  simp only
  generalize ws 1 p zs = S1 at *
  generalize ws 2 p zs = S2 at *
  have w1 := wrapW (S1 - S2) _ rfl (by omega) (by omega)
  have HS : Hid (0 ≤ S1 ∧ 0 ≤ S2) := ⟨hs1.1, hs2.1⟩
  obtain ⟨X, hX⟩ : ∃ x, x = w.heap.size := ⟨_, rfl⟩
  have HB0 : Hid (Below w.heap.size w (w.alloc (.cells #[.int .i64 0, .int .i64 0, .int .i64 0] 50))) := (Below.refl _ _).alloc (Nat.le_refl _) _
  have HR0 : Hid ((w.alloc (.cells #[.int .i64 0, .int .i64 0, .int .i64 0] 50)).heap[X]? = some (.cells #[.int .i64 0, .int .i64 0, .int .i64 0] 50 (0, 0))) := by rw [hX]; exact heap_alloc_new w _
  clear h hgd hp hs1 hs2
  go_enter Tryd.func20, Tryd.ntmps20
  go_wp2_with fail
  simp only [← hX]
  generalize w.alloc (.cells #[.int .i64 0, .int .i64 0, .int .i64 0] 50) = W0 at HB0 HR0 ⊢
  refine (HWA.out _ HB0.out).mono ?_
  rintro e W1 ⟨rfl, hb1⟩
  have HB1 := hidC (HB0.out.trans (hb1.mono HB0.out.size))
  have hR1 : W1.heap[X]? = some (.cells #[.int .i64 0, .int .i64 0, .int .i64 0] 50 (0, 0)) := (hb1.block X (Array.getElem?_eq_some_iff.1 HR0.out).1).trans HR0.out
  have hz : X < W1.heap.size := (Array.getElem?_eq_some_iff.1 hR1).1
  obtain ⟨d0, d1, d2, df⟩ := rowThree hR1
  have hbl := belThree HB1.out (Nat.le_of_eq hX.symm) (.int .i64 p) (.int .i64 (min S1 S2)) (.int .i64 (S1 - S2))
  have hro := setThree hR1 (.int .i64 p) (.int .i64 (min S1 S2)) (.int .i64 (S1 - S2))
  have HROW := hidC ((Below.heap_alloc _ (.cells #[.int .i64 0, .int .i64 S1, .int .i64 S2] 71) X (Array.getElem?_eq_some_iff.1 hro).1).trans hro)
  have HBL := hidC (hbl.alloc hbl.size (.cells #[.int .i64 0, .int .i64 S1, .int .i64 S2] 71))
  clear hb1 hR1 HWA HR0 HB0 hX HB1 hbl hro
  go_wp2_with fail
  clear d0 d1 d2 df
  generalize ((((W1.setCell ⟨X, 0, none⟩ (.int .i64 p)).setCell ⟨X, 1, none⟩ (.int .i64 (min S1 S2))).setCell ⟨X, 2, none⟩ (.int .i64 (S1 - S2))).alloc (.cells #[.int .i64 0, .int .i64 S1, .int .i64 S2] 71)) = W9 at HROW HBL ⊢
  obtain ⟨y0, y1, y2, -⟩ := rowThree HROW.out
  exact bodyPost_ret (v := .agg #[.int .i64 p, .int .i64 (min S1 S2), .int .i64 (S1 - S2)]) (by simp [results, Tryd.results20, go_sem, y0, y1, y2]) rfl ⟨rfl, HBL.out⟩

theorem apart_any (p v x : Int) (w : World) (hx : -1000000 ≤ x ∧ x ≤ 1000000) : Calls Tryd.prog 36 #[.agg #[.int .i64 p, .int .i64 v, .int .i64 x]] w fun e w' => e = .returned (.int .i64 (max x (-x))) ∧ Below w.heap.size w w' := by
  have w1 := wrapW (-x) _ rfl (by omega) (by omega)
  have HB : Hid (Below w.heap.size w (w.alloc (.cells #[.int .i64 p, .int .i64 v, .int .i64 x] 50))) := (Below.refl _ _).alloc (Nat.le_refl _) _
  clear hx
  go_enter Tryd.func36, Tryd.ntmps36
  go_wp2_with fail
  go_ret
  exact ⟨rfl, HB.out⟩

end Go.Proofs.YtabcfmpmkdoieaaDoor.cal
