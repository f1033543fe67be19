/- Contracts over this seat's translation: pitsame.Trades at two that are the same; meet.Trades. What the walk of SwapKeeps begins with: a book of one level with two rests. The walk of SwapKeeps where nothing is swapped. -/
import Derived.Test.YtjphhieloicdeaaMeeOwn
import Derived.Test.YtjphhieloicdeaaMeeDo2
import Derived.Test.YtjphhieloicdeaaSwpPlace
namespace Go.Proofs.Ytjphhieloicdeaa.mee
open Go.RowKit Go.Proofs.Ytjphhieloicdeaa.spn Go.Proofs.Ytjphhieloicdeaa.que Go.Proofs.Ytjphhieloicdeaa.sid Go.Proofs.Ytjphhieloicdeaa.bok
open Go.Proofs.Ytjphhieloicdeaa.ord (O oV mB mE chk meets_any)

theorem trades_none (p q : Option Addr) (c d : Nat) (w : World) :
    Calls Try.prog 13 #[.slice p 0 c, .slice q 0 d] w fun e w' => e = .returned (.bool true) ∧ Below w.heap.size w w' := by
  go_enter Try.func13, Try.ntmps13
  go_wp2_with fail
  go_loopg [5] 0 (fun _ s5 wr => s5 = .int .i64 0 ∧ wr = w)
  case atStart => exact ⟨rfl, rfl⟩
  case round =>
    obtain ⟨rfl, rfl⟩ := hrel
    go_wp2_with fail
    go_ret
    exact ⟨rfl, Below.refl _ _⟩

set_option maxRecDepth 100000 in
set_option maxHeartbeats 1000000 in
theorem trades_same (q1 q2 : Option Addr) (n1 n2 c1 c2 B1 B2 : Nat) (ts : List T) (w : World) (hn : ts.length ≤ 9223372036854775807) (h1 : OwnT w B1 (.slice q1 n1 c1) ts) (h2 : OwnT w B2 (.slice q2 n2 c2) ts) :
    Calls Try.prog 13 #[.slice q1 n1 c1, .slice q2 n2 c2] w fun e w' => e = .returned (.bool true) ∧ Below w.heap.size w w' := by
  have e1 : n1 = ts.length := by obtain ⟨q', c', e⟩ := OwnM.form h1; cases e; rfl
  have e2 : n2 = ts.length := by obtain ⟨q', c', e⟩ := OwnM.form h2; cases e; rfl
  subst e1
  subst e2
  by_cases hz : ts = []
  · subst hz
    exact trades_none q1 q2 c1 c2 w
  have hpos : 0 < ts.length := List.length_pos_iff.2 hz
  have HA1 : Hid (∀ k, k < ts.length → ∃ g off, q1 = some ⟨g, off, none⟩ ∧ g < w.heap.size ∧ w.cell? ⟨g, off + k * 6, none⟩ = some (.int .i64 ts[k]!.maker) ∧ w.cell? ⟨g, off + k * 6 + 1, none⟩ = some (.int .i64 ts[k]!.taker) ∧ w.cell? ⟨g, off + k * 6 + 2, none⟩ = some (.int .i64 ts[k]!.frm) ∧ w.cell? ⟨g, off + k * 6 + 3, none⟩ = some (.int .i64 ts[k]!.into) ∧ w.cell? ⟨g, off + k * 6 + 4, none⟩ = some (.int .i64 ts[k]!.price) ∧ w.cell? ⟨g, off + k * 6 + 5, none⟩ = some (.int .i64 ts[k]!.qty)) := fun k hk => OwnT.at h1 hk
  have HA2 : Hid (∀ k, k < ts.length → ∃ g off, q2 = some ⟨g, off, none⟩ ∧ g < w.heap.size ∧ w.cell? ⟨g, off + k * 6, none⟩ = some (.int .i64 ts[k]!.maker) ∧ w.cell? ⟨g, off + k * 6 + 1, none⟩ = some (.int .i64 ts[k]!.taker) ∧ w.cell? ⟨g, off + k * 6 + 2, none⟩ = some (.int .i64 ts[k]!.frm) ∧ w.cell? ⟨g, off + k * 6 + 3, none⟩ = some (.int .i64 ts[k]!.into) ∧ w.cell? ⟨g, off + k * 6 + 4, none⟩ = some (.int .i64 ts[k]!.price) ∧ w.cell? ⟨g, off + k * 6 + 5, none⟩ = some (.int .i64 ts[k]!.qty)) := fun k hk => OwnT.at h2 hk
  obtain ⟨b, o, rfl, hb, -⟩ := HA1.out 0 hpos
  obtain ⟨b', o', rfl, hb', -⟩ := HA2.out 0 hpos
  clear h1 h2 hz hpos
  generalize hN : ts.length = n at *
  go_enter Try.func13, Try.ntmps13
  go_wp2_with fail
  go_loopg [5] n (fun gg s5 wr => ∃ kk : Nat, kk ≤ n ∧ n - kk ≤ gg ∧ s5 = .int .i64 kk ∧ Aside (Below w.heap.size w wr))
  case atStart => exact ⟨0, Nat.zero_le _, by omega, rfl, Below.refl _ w⟩
  case round =>
    obtain ⟨kk, hkk, hg, rfl, BW⟩ := hrel
    by_cases hlt : kk < n
    · have hltz : (kk : Int) < (n : Int) := by omega
      obtain ⟨g1, o1, ee1, -, a0, a1, a2, a3, a4, a5⟩ := HA1.out kk hlt
      obtain ⟨g2, o2, ee2, -, b0, b1, b2, b3, b4, b5⟩ := HA2.out kk hlt
      cases ee1
      cases ee2
      have c0 := keeps BW.out a0
      have c1' := keeps BW.out a1
      have c2' := keeps BW.out a2
      have c3 := keeps BW.out a3
      have c4 := keeps BW.out a4
      have c5 := keeps BW.out a5
      have d0 := keeps BW.out b0
      have d1 := keeps BW.out b1
      have d2 := keeps BW.out b2
      have d3 := keeps BW.out b3
      have d4 := keeps BW.out b4
      have d5 := keeps BW.out b5
      clear a0 a1 a2 a3 a4 a5 b0 b1 b2 b3 b4 b5
      obtain ⟨r, hr⟩ : ∃ r, ts[kk]! = r := ⟨_, rfl⟩
      rw [hr] at c0 c1' c2' c3 c4 c5 d0 d1 d2 d3 d4 d5
      obtain ⟨r1, r2, r3, r4, r5, r6⟩ := r
      have hin1 : ¬ ((kk : Int) < 0) := by omega
      have e1 := que.wrapSucc kk n hlt hn
      clear hr hN
      go_wp2_with fail
      go_quiet (fail)
      go_wp2_with fail
      go_roundg (n - (kk + 1))
      case measure => clear e1; omega
      case rel => exact ⟨kk + 1, hlt, Nat.le_refl _, by go_num, below_drewN BW.out _⟩
    · have hltz : ¬ (kk : Int) < (n : Int) := by omega
      go_wp2_with fail
      go_ret
      exact ⟨rfl, BW.out⟩

end Go.Proofs.Ytjphhieloicdeaa.mee
namespace Go.Proofs.Ytjphhieloicdeaa.swp
open Go.RowKit Go.Proofs.Ytjphhieloicdeaa.spn Go.Proofs.Ytjphhieloicdeaa.que Go.Proofs.Ytjphhieloicdeaa.sid Go.Proofs.Ytjphhieloicdeaa.bok Go.Proofs.Ytjphhieloicdeaa.mee Go.Proofs.Ytjphhieloicdeaa.kin
open Go.Proofs.Ytjphhieloicdeaa.tickP (priceB)
open Go.Proofs.Ytjphhieloicdeaa.ord (O)

theorem fix_do (q : Option Addr) (n c : Nat) (w : World) (h : LS w (.slice q n c) (lsB 5 4 5)) :
    Calls Try.prog 5 #[.agg #[.slice q n c, .slice none 0 0], .int .i64 1, .int .i64 100, .int .i64 6] w fun e w' => ∃ u1 u2 m1 m2 d1 d2, e = .returned (.tuple #[.agg #[.slice u1 m1 d1, .slice u2 m2 d2], .slice none 0 0, .int .i64 0, .nilIface]) ∧ LS w' (.slice u1 m1 d1) (lsB 5 1 5) ∧ Below w.heap.size w w' := by
  refine (sdo_keep q none n 0 c 0 _ _ 1 1 100 1 1 5 4 5 100 6 0 0 w h (ls_nil _) (ls_at (by decide)) price100 (by decide) (by decide)).mono ?_
  rintro e w' ⟨u1, u2, m1, m2, d1, d2, rfl, g1, -, g3⟩
  exact ⟨u1, u2, m1, m2, d1, d2, rfl, g1.ls, g3⟩
theorem fact_cells {w : World} {q : Option Addr} {n c : Nat} (h : LS w (.slice q n c) (lsB 5 1 5)) : ∃ b o rb ro rc, q = some ⟨b, o, none⟩ ∧ n = 1 ∧ w.cell? ⟨b, o + 1, none⟩ = some (.slice (some ⟨rb, ro, none⟩) 2 rc) ∧ w.cell? ⟨rb, ro + 2, none⟩ = some (.int .i64 5) ∧ w.cell? ⟨rb, ro + 3, none⟩ = some (.int .i64 1) := by
  have hn : n = 1 := ls_len h
  obtain ⟨b, o, rb, ro, rc, r1, r2, r3, r4, r5, e1, -, -, e4, -, e6, -, -, e9, e10, -⟩ := spot_at h (i := 0) (k := 0) (by decide) (by decide)
  have e4' : (⟨1, 1, 5, 1, 5⟩ : R) = ⟨r1, r2, r3, r4, r5⟩ := e4
  simp only [R.mk.injEq] at e4'
  obtain ⟨-, -, rfl, rfl, -⟩ := e4'
  simp only [Nat.zero_mul, Nat.add_zero] at e6 e9 e10
  exact ⟨b, o, rb, ro, rc, e1, hn, e6, e9, e10⟩
theorem gone_none {bs ss : List L} {o : O} (h : o.kind = 1) : kdoG bs ss o = 0 := by
  unfold kdoG setG stayB mayK
  rw [h]
  by_cases h0 : (metR bs ss o).2.2 = 0
  · simp [h0]
  · simp [h0]
theorem At.place {bs ss : List L} {id s p : Int} {r r' : R} {i k : Nat} (h : At bs ss id s p r i k) (hid : r'.id = id) (P : Int) : placeV P id (if s = 1 then kB s bs i k r' else kS s ss i k r') = placeV P id (if s = 1 then bs else ss) := by
  obtain ⟨ls, h, -⟩ := h
  have hi := h.hi
  have hk := h.hk
  have hr := h.hr
  unfold kB kS
  rcases h.side with ⟨rfl, rfl, -⟩ | ⟨rfl, rfl, -⟩
  · rw [if_pos rfl, if_pos rfl, if_pos rfl]; exact place_set P id hi hk (by rw [hid, hr])
  · rw [if_neg (by decide), if_neg (by decide), if_neg (by decide)]; exact place_set P id hi hk (by rw [hid, hr])
theorem place_any (s p id : Int) (q1 q2 : Option Addr) (n1 n2 c1 c2 : Nat) (bs ss : List L) (w : World) (h1 : LS w (.slice q1 n1 c1) bs) (h2 : LS w (.slice q2 n2 c2) ss) (h0 : bookE bs ss = 0) :
    Calls Try.prog 11 #[.agg #[.slice q1 n1 c1, .slice q2 n2 c2], .int .i64 s, .int .i64 p, .int .i64 id] w fun e w' => e = .returned (.int .i64 (placeV p id (if s = 1 then bs else ss))) ∧ Below w.heap.size w w' := by
  obtain ⟨e1, e2, -⟩ := book_zero h0
  have hl : ∀ {t : Int} {xs : List L}, schk t xs = 0 → xs.length ≤ 60 := fun {t xs} hk => by
    obtain ⟨-, z2, z3, -⟩ := schk_zero hk
    have := len_cnt (sgo_each z2)
    omega
  by_cases hs : s = 1
  · rw [if_pos hs]
    exact place_is s p id q1 q2 q1 n1 n2 c1 c2 n1 c1 bs w (if_pos hs) h1 (side_ne e1) (hl e1)
  · rw [if_neg hs]
    exact place_is s p id q1 q2 q2 n1 n2 c1 c2 n2 c2 ss w (if_neg hs) h2 (side_ne e2) (hl e2)
end Go.Proofs.Ytjphhieloicdeaa.swp
namespace Go.Proofs.Ytjphhieloicdeaa.swp
open Go.RowKit Go.Proofs.Ytjphhieloicdeaa.spn Go.Proofs.Ytjphhieloicdeaa.que Go.Proofs.Ytjphhieloicdeaa.sid Go.Proofs.Ytjphhieloicdeaa.bok Go.Proofs.Ytjphhieloicdeaa.mee Go.Proofs.Ytjphhieloicdeaa.kin
open Go.Proofs.Ytjphhieloicdeaa.tickP (priceB)
open Go.Proofs.Ytjphhieloicdeaa.ord (O)

set_option maxRecDepth 100000 in
set_option maxHeartbeats 8000000 in
theorem sk_err (q1 q2 : Option Addr) (n1 n2 c1 c2 : Nat) (bs ss : List L) (id p qty K : Int) (w : World) (h1 : LS w (.slice q1 n1 c1) bs) (h2 : LS w (.slice q2 n2 c2) ss) (HDO : Hid (∀ W, Below w.heap.size w W → Calls Try.prog 5 #[.agg #[.slice q1 n1 c1, .slice q2 n2 c2], .int .i64 id, .int .i64 p, .int .i64 qty] W fun e w' => e = .returned (.tuple #[.agg #[.slice none 0 0, .slice none 0 0], .slice none 0 0, .int .i64 0, .iface 64 (.int .i64 K)]) ∧ Below W.heap.size W w')) :
    Calls Try.prog 3 #[.agg #[.slice q1 n1 c1, .slice q2 n2 c2], .int .i64 id, .int .i64 p, .int .i64 qty] w fun e w' => e = .returned (.bool true) ∧ Below w.heap.size w w' := by
  obtain ⟨V0, hV0⟩ : ∃ V0, V0 = w.alloc (.cells #[.slice q1 n1 c1, .slice q2 n2 c2] 24) := ⟨_, rfl⟩
  obtain ⟨w2, hw2⟩ : ∃ w2, w2 = (V0.alloc (.cells #[.int .i64 1, .int .i64 1, .int .i64 5, .int .i64 4, .int .i64 5, .int .i64 2, .int .i64 2, .int .i64 4, .int .i64 0, .int .i64 0] 26)).alloc (.cells #[.int .i64 100, .slice (some ⟨V0.heap.size, 0, none⟩) 2 2] 29) := ⟨_, rfl⟩
  obtain ⟨V, hV⟩ : ∃ V, V = w2.alloc (.cells #[.slice (some ⟨V0.heap.size + 1, 0, none⟩) 1 1, .slice none 0 0] 24) := ⟨_, rfl⟩
  have hs1 : V0.heap.size = w.heap.size + 1 := by rw [hV0]; simp
  have hB1 : Below w.heap.size w V0 := by rw [hV0]; exact (Below.refl _ _).alloc (Nat.le_refl _) _
  have hB2 : Below V0.heap.size V0 w2 := by rw [hw2]; exact ((Below.refl _ _).alloc (Nat.le_refl _) _).alloc (by simp) _
  have hB3 : Below w2.heap.size w2 V := by rw [hV]; exact (Below.refl _ _).alloc (Nat.le_refl _) _
  have hB0V := hB2.trans (hB3.mono hB2.size)
  have hL2 : LS w2 (.slice (some ⟨V0.heap.size + 1, 0, none⟩) 1 1) (lsB 5 4 5) := by rw [hw2]; exact two_lay 1 1 5 4 5 V0
  have hRG : V0.heap[w.heap.size]? = some (.cells #[.slice q1 n1 c1, .slice q2 n2 c2] 24 (0, 0)) := by rw [hV0]; exact heap_alloc_new w _
  obtain ⟨G, hG⟩ : ∃ G, G = w.heap.size := ⟨_, rfl⟩
  rw [← hG] at hRG
  have hGV : G < V0.heap.size := (Array.getElem?_eq_some_iff.1 hRG).1
  have HSO : Hid (∀ W, Below V0.heap.size V0 W → (Below w.heap.size w W ∧ LS W (.slice q1 n1 c1) bs ∧ LS W (.slice q2 n2 c2) ss) ∧ W.cell? ⟨G, 0, none⟩ = some (.slice q1 n1 c1) ∧ W.cell? ⟨G, 1, none⟩ = some (.slice q2 n2 c2)) := fun W hW => by
    have hw := hB1.trans (hW.mono hB1.size)
    obtain ⟨y0, y1, -⟩ := rowTwo ((hW.block G hGV).trans hRG)
    exact ⟨⟨hw, h1.below hw, h2.below hw⟩, y0, y1⟩
  have HFD := hidW (fix_do (some ⟨V0.heap.size + 1, 0, none⟩) 1 1 V (hL2.below hB3))
  have HBV := hidW hB0V
  obtain ⟨LV, hLV⟩ : ∃ LV, LV = w.heap.size + 2 := ⟨_, rfl⟩
  have hLV2 : LV = w.heap.size + 1 + 1 := by omega
  rw [show V0.heap.size + 1 = LV by omega] at HFD
  clear hL2 hB2 hB3 hB0V hRG hGV h1 h2 hB1
  go_enter Try.func3, Try.ntmps3
  go_wp2_with fail
  rw [hs1] at hw2 hV
  rw [← hV0]
  rw [← hw2]
  rw [← hV]
  try simp only [← hLV]
  try simp only [← hLV2]
  simp only [← hG]
  clear hV0 hw2 hV hG hs1 hLV hLV2
  refine HFD.out.mono ?_
  rintro x w3 ⟨u1, u2, m1, m2, d1, d2, rfl, D1, b3⟩
  have hBa : Below w3.heap.size w3 (w3.alloc (.cells #[.slice u1 m1 d1, .slice u2 m2 d2] 24)) := (Below.refl _ _).alloc (Nat.le_refl _) _
  have hRF : (w3.alloc (.cells #[.slice u1 m1 d1, .slice u2 m2 d2] 24)).heap[w3.heap.size]? = some (.cells #[.slice u1 m1 d1, .slice u2 m2 d2] 24 (0, 0)) := heap_alloc_new w3 _
  have hb4 := b3.trans (hBa.mono b3.size)
  have HW4 := hidW (HBV.out.trans (hb4.mono HBV.out.size))
  obtain ⟨fb, fo, frb, fro, frc, rfl, rfl, k1, k2, k3⟩ := fact_cells (D1.below hBa)
  clear D1 b3 hBa hb4 HFD HBV
  go_upto_region 3 with fail
  generalize w3.alloc (.cells #[.slice (some ⟨fb, fo, none⟩) 1 d1, .slice u2 m2 d2] 24) = W4 at *
  generalize w3.heap.size = FB at *
  obtain ⟨t0, t1, -⟩ := rowTwo hRF
  obtain ⟨-, g0, g1⟩ := HSO.out W4 HW4.out
  go_wp2_with fail
  clear k1 k2 k3 t0 t1 hRF g0 g1
  have HBW := hidW (HSO.out W4 HW4.out).1.1
  refine (HDO.out W4 HBW.out).mono ?_
  rintro x w5 ⟨rfl, b5⟩
  have hb5 := HBW.out.trans (b5.mono HBW.out.size)
  have HFIN := hidW (hb5.alloc hb5.size (.cells #[.slice none 0 0, .slice none 0 0] 24))
  clear b5 hb5 HDO HBW HSO HW4
  go_wp2_with fail
  go_ret
  exact ⟨rfl, HFIN.out⟩
end Go.Proofs.Ytjphhieloicdeaa.swp
