/- Contracts over this seat's translation: swap.Do, at every book. -/
import Derived.Test.YtjphhieloicdeaaSwpRep2
import Derived.Test.YtjphhieloicdeaaKinDo
namespace Go.Proofs.Ytjphhieloicdeaa.swp
open Go.RowKit Go.Proofs.Ytjphhieloicdeaa.spn Go.Proofs.Ytjphhieloicdeaa.que Go.Proofs.Ytjphhieloicdeaa.sid Go.Proofs.Ytjphhieloicdeaa.bok Go.Proofs.Ytjphhieloicdeaa.mee Go.Proofs.Ytjphhieloicdeaa.kin
open Go.Proofs.Ytjphhieloicdeaa.tickP (errB priceB tprice_V)
open Go.Proofs.Ytjphhieloicdeaa.ord (O)

theorem qty_span (q : Int) (r : Bool) (h : (decide (1 ≤ q) && decide (q ≤ 10000)) = !r) : [(q, 1, 10000)].any spanB = r := by
  have e : [(q, 1, 10000)].any spanB = !(decide (1 ≤ q) && decide (q ≤ 10000)) := by rw [Bool.eq_iff_iff]; simp [spanB]
  rw [e, h]; simp
theorem kdp_form {bs ss : List L} {o : O} {w w' : World} {e : Ending} (h : KDPost bs ss o w e w') : ∃ u1 u2 m1 m2 k1 k2 tq tn tc gg ev, e = .returned (.tuple #[.agg #[.slice u1 m1 k1, .slice u2 m2 k2], .slice tq tn tc, .int .i64 gg, ev]) := by
  by_cases hE : kdoE bs ss o = 0
  · obtain ⟨q1, q2, n1, n2, c1, c2, tv, rfl, -, -, g3⟩ := h.1 hE
    obtain ⟨tq, tc, rfl⟩ := OwnM.form g3
    exact ⟨_, _, _, _, _, _, _, _, _, _, _, rfl⟩
  · exact ⟨_, _, _, _, _, _, _, _, _, _, _, h.2.1 hE⟩
theorem kdp_move {bs ss : List L} {o : O} {W w' Z w : World} {e : Ending} {P : Nat} (h : KDPost bs ss o W e w') (hg : w'.grownBy Z (some P)) (hP : P < W.heap.size) (hw : w.heap.size ≤ W.heap.size) (hB : Below w.heap.size w Z) : KDPost bs ss o w e Z := by
  refine ⟨fun hE => ?_, h.2.1, hB⟩
  obtain ⟨q1, q2, n1, n2, c1, c2, tv, rfl, g1, g2, g3⟩ := h.1 hE
  exact ⟨q1, q2, n1, n2, c1, c2, tv, rfl, (g1.other hg hP).mono hw, (g2.other hg hP).mono hw, OwnM.mono (kept_of g3 hg (fun z hz e => by cases e; have := (OwnM.lt g3 P hz).1; omega)) hw⟩

set_option maxRecDepth 100000 in
set_option maxHeartbeats 4000000 in
theorem sdo_bad (q1 q2 : Option Addr) (n1 n2 c1 c2 : Nat) (bs ss : List L) (id price qty : Int) (hid : (Lit.int .i64 id).wf = true) (w : World) (h1 : LS w (.slice q1 n1 c1) bs) (h2 : LS w (.slice q2 n2 c2) ss) (hE : ¬ fE bs ss id price = 0) :
    Calls Try.prog 5 #[.agg #[.slice q1 n1 c1, .slice q2 n2 c2], .int .i64 id, .int .i64 price, .int .i64 qty] w fun e w' => e = .returned (.tuple #[.agg #[.slice none 0 0, .slice none 0 0], .slice none 0 0, .int .i64 0, .iface 64 (.int .i64 (fE bs ss id price))]) ∧ Below w.heap.size w w' := by
  obtain ⟨V1, hV1⟩ : ∃ V1, V1 = w.alloc (.cells #[.slice q1 n1 c1, .slice q2 n2 c2] 24) := ⟨_, rfl⟩
  obtain ⟨V, hV⟩ : ∃ V, V = V1.alloc (.cells #[.slice none 0 0, .slice none 0 0] 24) := ⟨_, rfl⟩
  have hs1 : V1.heap.size = w.heap.size + 1 := by rw [hV1]; simp
  have hb1 : Below w.heap.size w V1 := by rw [hV1]; exact (Below.refl _ _).alloc (Nat.le_refl _) _
  have hb2 : Below V1.heap.size V1 V := by rw [hV]; exact (Below.refl _ _).alloc (Nat.le_refl _) _
  have hBV : Below w.heap.size w V := hb1.trans (hb2.mono hb1.size)
  have hr1 : V.heap[w.heap.size]? = some (.cells #[.slice q1 n1 c1, .slice q2 n2 c2] 24 (0, 0)) := by rw [hb2.block _ (by omega), hV1]; exact heap_alloc_new w _
  have hr2 : V.heap[w.heap.size + 1]? = some (.cells #[.slice none 0 0, .slice none 0 0] 24 (0, 0)) := by rw [← hs1, hV]; exact heap_alloc_new V1 _
  obtain ⟨P, hP⟩ : ∃ P, P = w.heap.size + 1 := ⟨_, rfl⟩
  obtain ⟨G, hG⟩ : ∃ G, G = w.heap.size := ⟨_, rfl⟩
  rw [← hP] at hr2
  rw [← hG] at hr1
  have hPV : P < V.heap.size := (Array.getElem?_eq_some_iff.1 hr2).1
  have hGV : G < V.heap.size := (Array.getElem?_eq_some_iff.1 hr1).1
  have HP : Hid (w.heap.size ≤ P ∧ w.heap.size ≤ V.heap.size ∧ P < V.heap.size) := ⟨by omega, hBV.size, hPV⟩
  have HSO : Hid (∀ W, Below V.heap.size V W → Below w.heap.size w W ∧ W.heap[P]? = some (.cells #[.slice none 0 0, .slice none 0 0] 24 (0, 0)) ∧ W.cell? ⟨G, 0, none⟩ = some (.slice q1 n1 c1) ∧ W.cell? ⟨G, 1, none⟩ = some (.slice q2 n2 c2)) := fun W hW => by
    obtain ⟨y0, y1, -⟩ := rowTwo ((hW.block G hGV).trans hr1)
    exact ⟨hBV.trans (hW.mono hBV.size), (hW.block P hPV).trans hr2, y0, y1⟩
  have HLS : Hid (∀ W, Below w.heap.size w W → LS W (.slice q1 n1 c1) bs ∧ LS W (.slice q2 n2 c2) ss) := fun W hW => ⟨h1.below hW, h2.below hW⟩
  have HBV := hidW hBV
  have HF := hidW (sfind_bad q1 q2 n1 n2 c1 c2 bs ss id price hid V (h1.below hBV) (h2.below hBV) hE)
  clear h1 h2 hs1 hb1 hb2 hBV hr1 hr2 hPV hGV
  clear hid hE
  generalize fE bs ss id price = K at *
  obtain ⟨-, -, g0, g1⟩ := HSO.out V (Below.refl _ _)
  go_enter Try.func5, Try.ntmps5
  go_wp2_with fail
  rw [← hV1, ← hV]
  simp only [← hP]
  simp only [← hG]
  clear hV1 hV hP hG
  refine HF.out.mono ?_
  rintro x w1 ⟨rfl, b1⟩
  have hBa : Below w1.heap.size w1 (w1.alloc (.cells #[.int .i64 0, .int .i64 0, .int .i64 0, .int .i64 0, .int .i64 0, .int .i64 0, .int .i64 0] 51)) := (Below.refl _ _).alloc (Nat.le_refl _) _
  have HW2 := hidW (b1.trans (hBa.mono b1.size))
  have hRS : (w1.alloc (.cells #[.int .i64 0, .int .i64 0, .int .i64 0, .int .i64 0, .int .i64 0, .int .i64 0, .int .i64 0] 51)).heap[w1.heap.size]? = some (.cells #[.int .i64 0, .int .i64 0, .int .i64 0, .int .i64 0, .int .i64 0, .int .i64 0, .int .i64 0] 51 (0, 0)) := heap_alloc_new w1 _
  clear b1 hBa HF g0 g1
  go_upto_if 25 with fail
  generalize w1.alloc (.cells #[.int .i64 0, .int .i64 0, .int .i64 0, .int .i64 0, .int .i64 0, .int .i64 0, .int .i64 0] 51) = W2 at *
  generalize w1.heap.size = F at *
  obtain ⟨hww, hRP, -, -⟩ := HSO.out W2 HW2.out
  obtain ⟨z0, z1, zf⟩ := rowTwo hRP
  have zf0 := zf 0
  have zf1 := zf 1
  have hgg := grTwo W2 P (.slice none 0 0) (.slice none 0 0)
  have HHX := hidW (setTwo hRP (.slice none 0 0) (.slice none 0 0))
  have HBX := hidW (hww.grown hgg hww.size (fun k hk => by cases hk; exact HP.out.1))
  clear zf hRP hww hgg
  go_wp2_with fail
  generalize ((W2.setCell ⟨P, 0, none⟩ (.slice none 0 0)).setCell ⟨P, 1, none⟩ (.slice none 0 0)) = Z at *
  obtain ⟨y0, y1, -⟩ := rowTwo HHX.out
  exact bodyPost_ret (v := .tuple #[.agg #[.slice none 0 0, .slice none 0 0], .slice none 0 0, .int .i64 0, .iface 64 (.int .i64 K)]) (by simp [results, Try.results5, go_sem, y0, y1]) rfl ⟨rfl, HBX.out⟩

set_option maxRecDepth 100000 in
set_option maxHeartbeats 4000000 in
theorem sdo_qty (q1 q2 : Option Addr) (n1 n2 c1 c2 : Nat) (bs ss : List L) (id s p r1 r2 r3 r4 r5 price qty : Int) (i k : Nat) (w : World) (h1 : LS w (.slice q1 n1 c1) bs) (h2 : LS w (.slice q2 n2 c2) ss) (hA : At bs ss id s p ⟨r1, r2, r3, r4, r5⟩ i k) (hpr : priceB price = true) (hq : (decide (1 ≤ qty) && decide (qty ≤ 10000)) = false) :
    Calls Try.prog 5 #[.agg #[.slice q1 n1 c1, .slice q2 n2 c2], .int .i64 id, .int .i64 price, .int .i64 qty] w fun e w' => e = .returned (.tuple #[.agg #[.slice none 0 0, .slice none 0 0], .slice none 0 0, .int .i64 0, .iface 64 (.int .i64 1)]) ∧ Below w.heap.size w w' := by
  obtain ⟨V1, hV1⟩ : ∃ V1, V1 = w.alloc (.cells #[.slice q1 n1 c1, .slice q2 n2 c2] 24) := ⟨_, rfl⟩
  obtain ⟨V, hV⟩ : ∃ V, V = V1.alloc (.cells #[.slice none 0 0, .slice none 0 0] 24) := ⟨_, rfl⟩
  have hs1 : V1.heap.size = w.heap.size + 1 := by rw [hV1]; simp
  have hb1 : Below w.heap.size w V1 := by rw [hV1]; exact (Below.refl _ _).alloc (Nat.le_refl _) _
  have hb2 : Below V1.heap.size V1 V := by rw [hV]; exact (Below.refl _ _).alloc (Nat.le_refl _) _
  have hBV : Below w.heap.size w V := hb1.trans (hb2.mono hb1.size)
  have hr1 : V.heap[w.heap.size]? = some (.cells #[.slice q1 n1 c1, .slice q2 n2 c2] 24 (0, 0)) := by rw [hb2.block _ (by omega), hV1]; exact heap_alloc_new w _
  have hr2 : V.heap[w.heap.size + 1]? = some (.cells #[.slice none 0 0, .slice none 0 0] 24 (0, 0)) := by rw [← hs1, hV]; exact heap_alloc_new V1 _
  obtain ⟨P, hP⟩ : ∃ P, P = w.heap.size + 1 := ⟨_, rfl⟩
  obtain ⟨G, hG⟩ : ∃ G, G = w.heap.size := ⟨_, rfl⟩
  rw [← hP] at hr2
  rw [← hG] at hr1
  have hPV : P < V.heap.size := (Array.getElem?_eq_some_iff.1 hr2).1
  have hGV : G < V.heap.size := (Array.getElem?_eq_some_iff.1 hr1).1
  have HP : Hid (w.heap.size ≤ P ∧ w.heap.size ≤ V.heap.size ∧ P < V.heap.size) := ⟨by omega, hBV.size, hPV⟩
  have HSO : Hid (∀ W, Below V.heap.size V W → Below w.heap.size w W ∧ W.heap[P]? = some (.cells #[.slice none 0 0, .slice none 0 0] 24 (0, 0)) ∧ W.cell? ⟨G, 0, none⟩ = some (.slice q1 n1 c1) ∧ W.cell? ⟨G, 1, none⟩ = some (.slice q2 n2 c2)) := fun W hW => by
    obtain ⟨y0, y1, -⟩ := rowTwo ((hW.block G hGV).trans hr1)
    exact ⟨hBV.trans (hW.mono hBV.size), (hW.block P hPV).trans hr2, y0, y1⟩
  have HLS : Hid (∀ W, Below w.heap.size w W → LS W (.slice q1 n1 c1) bs ∧ LS W (.slice q2 n2 c2) ss) := fun W hW => ⟨h1.below hW, h2.below hW⟩
  have HBV := hidW hBV
  have HF := hidW (sfind_at q1 q2 n1 n2 c1 c2 bs ss id s p r1 r2 r3 r4 r5 price i k V (h1.below hBV) (h2.below hBV) hA hpr)
  clear h1 h2 hs1 hb1 hb2 hBV hr1 hr2 hPV hGV
  clear hA hpr
  obtain ⟨-, -, g0, g1⟩ := HSO.out V (Below.refl _ _)
  go_enter Try.func5, Try.ntmps5
  go_wp2_with fail
  rw [← hV1, ← hV]
  simp only [← hP]
  simp only [← hG]
  clear hV1 hV hP hG
  refine HF.out.mono ?_
  rintro x w1 ⟨rfl, b1⟩
  have hBa : Below w1.heap.size w1 (w1.alloc (.cells #[.int .i64 s, .int .i64 p, .int .i64 r1, .int .i64 r2, .int .i64 r3, .int .i64 r4, .int .i64 r5] 51)) := (Below.refl _ _).alloc (Nat.le_refl _) _
  have HW2 := hidW (b1.trans (hBa.mono b1.size))
  have hRS : (w1.alloc (.cells #[.int .i64 s, .int .i64 p, .int .i64 r1, .int .i64 r2, .int .i64 r3, .int .i64 r4, .int .i64 r5] 51)).heap[w1.heap.size]? = some (.cells #[.int .i64 s, .int .i64 p, .int .i64 r1, .int .i64 r2, .int .i64 r3, .int .i64 r4, .int .i64 r5] 51 (0, 0)) := heap_alloc_new w1 _
  clear b1 hBa HF g0 g1
  go_upto_if 25 with fail
  generalize w1.alloc (.cells #[.int .i64 s, .int .i64 p, .int .i64 r1, .int .i64 r2, .int .i64 r3, .int .i64 r4, .int .i64 r5] 51) = W2 at *
  generalize w1.heap.size = F at *
  have HS := hidW (qty_span qty true hq)
  clear hq
  go_wp2_with fail
  refine (qty_any qty W2).mono ?_
  rintro x w3 ⟨rfl, b3⟩
  go_wp2_with fail
  refine (scheck1 true _ _ _ _ _ rfl HS.out).mono ?_
  rintro x w4 ⟨rfl, b4⟩
  simp only [show errV (rangeE true) = .iface 64 (.int .i64 1) from rfl]
  have hb4 := b3.trans (b4.mono b3.size)
  have HW4 := hidW (HW2.out.trans (hb4.mono HW2.out.size))
  have hRS4 := (hb4.block F (Array.getElem?_eq_some_iff.1 hRS).1).trans hRS
  clear b3 b4 hb4 HS hRS HW2
  obtain ⟨hww, hRP, -, -⟩ := HSO.out w4 HW4.out
  obtain ⟨z0, z1, zf⟩ := rowTwo hRP
  have zf0 := zf 0
  have zf1 := zf 1
  have hgg := grTwo w4 P (.slice none 0 0) (.slice none 0 0)
  have HHX := hidW (setTwo hRP (.slice none 0 0) (.slice none 0 0))
  have HBX := hidW (hww.grown hgg hww.size (fun k hk => by cases hk; exact HP.out.1))
  clear zf hRP hww hgg
  go_wp2_with fail
  generalize ((w4.setCell ⟨P, 0, none⟩ (.slice none 0 0)).setCell ⟨P, 1, none⟩ (.slice none 0 0)) = Z at *
  obtain ⟨y0, y1, -⟩ := rowTwo HHX.out
  exact bodyPost_ret (v := .tuple #[.agg #[.slice none 0 0, .slice none 0 0], .slice none 0 0, .int .i64 0, .iface 64 (.int .i64 1)]) (by simp [results, Try.results5, go_sem, y0, y1]) rfl ⟨rfl, HBX.out⟩

set_option maxRecDepth 100000 in
set_option maxHeartbeats 4000000 in
theorem sdo_keep (q1 q2 : Option Addr) (n1 n2 c1 c2 : Nat) (bs ss : List L) (id s p r1 r2 r3 r4 r5 price qty : Int) (i k : Nat) (w : World) (h1 : LS w (.slice q1 n1 c1) bs) (h2 : LS w (.slice q2 n2 c2) ss) (hA : At bs ss id s p ⟨r1, r2, r3, r4, r5⟩ i k) (hpr : priceB price = true) (hq : (decide (1 ≤ qty) && decide (qty ≤ 10000)) = true) (hkb : keepB p ⟨r1, r2, r3, r4, r5⟩ price qty = true) :
    Calls Try.prog 5 #[.agg #[.slice q1 n1 c1, .slice q2 n2 c2], .int .i64 id, .int .i64 price, .int .i64 qty] w fun e w' => ∃ u1 u2 m1 m2 d1 d2, e = .returned (.tuple #[.agg #[.slice u1 m1 d1, .slice u2 m2 d2], .slice none 0 0, .int .i64 0, .nilIface]) ∧ DL w' w.heap.size (.slice u1 m1 d1) (kB s bs i k (lessR ⟨r1, r2, r3, r4, r5⟩ qty)) ∧ DL w' w.heap.size (.slice u2 m2 d2) (kS s ss i k (lessR ⟨r1, r2, r3, r4, r5⟩ qty)) ∧ Below w.heap.size w w' := by
  obtain ⟨V1, hV1⟩ : ∃ V1, V1 = w.alloc (.cells #[.slice q1 n1 c1, .slice q2 n2 c2] 24) := ⟨_, rfl⟩
  obtain ⟨V, hV⟩ : ∃ V, V = V1.alloc (.cells #[.slice none 0 0, .slice none 0 0] 24) := ⟨_, rfl⟩
  have hs1 : V1.heap.size = w.heap.size + 1 := by rw [hV1]; simp
  have hb1 : Below w.heap.size w V1 := by rw [hV1]; exact (Below.refl _ _).alloc (Nat.le_refl _) _
  have hb2 : Below V1.heap.size V1 V := by rw [hV]; exact (Below.refl _ _).alloc (Nat.le_refl _) _
  have hBV : Below w.heap.size w V := hb1.trans (hb2.mono hb1.size)
  have hr1 : V.heap[w.heap.size]? = some (.cells #[.slice q1 n1 c1, .slice q2 n2 c2] 24 (0, 0)) := by rw [hb2.block _ (by omega), hV1]; exact heap_alloc_new w _
  have hr2 : V.heap[w.heap.size + 1]? = some (.cells #[.slice none 0 0, .slice none 0 0] 24 (0, 0)) := by rw [← hs1, hV]; exact heap_alloc_new V1 _
  obtain ⟨P, hP⟩ : ∃ P, P = w.heap.size + 1 := ⟨_, rfl⟩
  obtain ⟨G, hG⟩ : ∃ G, G = w.heap.size := ⟨_, rfl⟩
  rw [← hP] at hr2
  rw [← hG] at hr1
  have hPV : P < V.heap.size := (Array.getElem?_eq_some_iff.1 hr2).1
  have hGV : G < V.heap.size := (Array.getElem?_eq_some_iff.1 hr1).1
  have HP : Hid (w.heap.size ≤ P ∧ w.heap.size ≤ V.heap.size ∧ P < V.heap.size) := ⟨by omega, hBV.size, hPV⟩
  have HSO : Hid (∀ W, Below V.heap.size V W → Below w.heap.size w W ∧ W.heap[P]? = some (.cells #[.slice none 0 0, .slice none 0 0] 24 (0, 0)) ∧ W.cell? ⟨G, 0, none⟩ = some (.slice q1 n1 c1) ∧ W.cell? ⟨G, 1, none⟩ = some (.slice q2 n2 c2)) := fun W hW => by
    obtain ⟨y0, y1, -⟩ := rowTwo ((hW.block G hGV).trans hr1)
    exact ⟨hBV.trans (hW.mono hBV.size), (hW.block P hPV).trans hr2, y0, y1⟩
  have HLS : Hid (∀ W, Below w.heap.size w W → LS W (.slice q1 n1 c1) bs ∧ LS W (.slice q2 n2 c2) ss) := fun W hW => ⟨h1.below hW, h2.below hW⟩
  have HBV := hidW hBV
  have HF := hidW (sfind_at q1 q2 n1 n2 c1 c2 bs ss id s p r1 r2 r3 r4 r5 price i k V (h1.below hBV) (h2.below hBV) hA hpr)
  have HK := hidW (fun W => skeeps_any s p r1 r2 r3 r4 r5 price qty W hA.rest)
  rw [hkb] at HK
  have hq2 : 1 ≤ qty ∧ qty ≤ 10000 := by simpa using hq
  have HLE := hidW (fun W => less_any r1 r2 r3 r4 r5 qty W (rchk_zero hA.rest).1 hq2)
  have hup := hA.up (r' := lessR ⟨r1, r2, r3, r4, r5⟩ qty) hA.id
  obtain ⟨KB, hKB⟩ : ∃ KB, KB = kB s bs i k (lessR ⟨r1, r2, r3, r4, r5⟩ qty) := ⟨_, rfl⟩
  obtain ⟨KS, hKS⟩ : ∃ KS, KS = kS s ss i k (lessR ⟨r1, r2, r3, r4, r5⟩ qty) := ⟨_, rfl⟩
  rw [← hKB, ← hKS] at hup ⊢
  have HRE : Hid (∀ W, Below V.heap.size V W → Calls Try.prog 18 #[.agg #[.slice q1 n1 c1, .slice q2 n2 c2], .agg #[.int .i64 r1, .int .i64 r2, .int .i64 (min r3 qty), .int .i64 (qty - min r3 qty), .int .i64 r5]] W fun e w' => ∃ u1 u2 m1 m2 d1 d2, e = .returned (.agg #[.slice u1 m1 d1, .slice u2 m2 d2]) ∧ DL w' V.heap.size (.slice u1 m1 d1) KB ∧ DL w' V.heap.size (.slice u2 m2 d2) KS ∧ Below V.heap.size V w') := fun W hW => by
    have hwW := hBV.trans (hW.mono hBV.size)
    refine (replace_any q1 q2 n1 n2 c1 c2 bs ss r1 r2 (min r3 qty) (qty - min r3 qty) r5 W (h1.below hwW) (h2.below hwW) hA.book).mono ?_
    rintro e w' ⟨u1, u2, m1, m2, d1, d2, rfl, g1, g2, g3⟩
    refine ⟨u1, u2, m1, m2, d1, d2, rfl, ?_, ?_, hW.trans (g3.mono hW.size)⟩
    · rw [← hup.1]; exact g1.mono hW.size
    · rw [← hup.2]; exact g2.mono hW.size
  clear h1 h2 hs1 hb1 hb2 hBV hr1 hr2 hPV hGV
  clear hA hpr hkb hq2 hup hKB hKS
  obtain ⟨-, -, g0, g1⟩ := HSO.out V (Below.refl _ _)
  go_enter Try.func5, Try.ntmps5
  go_wp2_with fail
  rw [← hV1, ← hV]
  simp only [← hP]
  simp only [← hG]
  clear hV1 hV hP hG
  refine HF.out.mono ?_
  rintro x w1 ⟨rfl, b1⟩
  have hBa : Below w1.heap.size w1 (w1.alloc (.cells #[.int .i64 s, .int .i64 p, .int .i64 r1, .int .i64 r2, .int .i64 r3, .int .i64 r4, .int .i64 r5] 51)) := (Below.refl _ _).alloc (Nat.le_refl _) _
  have HW2 := hidW (b1.trans (hBa.mono b1.size))
  have hRS : (w1.alloc (.cells #[.int .i64 s, .int .i64 p, .int .i64 r1, .int .i64 r2, .int .i64 r3, .int .i64 r4, .int .i64 r5] 51)).heap[w1.heap.size]? = some (.cells #[.int .i64 s, .int .i64 p, .int .i64 r1, .int .i64 r2, .int .i64 r3, .int .i64 r4, .int .i64 r5] 51 (0, 0)) := heap_alloc_new w1 _
  clear b1 hBa HF g0 g1
  go_upto_if 25 with fail
  generalize w1.alloc (.cells #[.int .i64 s, .int .i64 p, .int .i64 r1, .int .i64 r2, .int .i64 r3, .int .i64 r4, .int .i64 r5] 51) = W2 at *
  generalize w1.heap.size = F at *
  have HS := hidW (qty_span qty false hq)
  clear hq
  go_wp2_with fail
  refine (qty_any qty W2).mono ?_
  rintro x w3 ⟨rfl, b3⟩
  go_wp2_with fail
  refine (scheck1 false _ _ _ _ _ rfl HS.out).mono ?_
  rintro x w4 ⟨rfl, b4⟩
  simp only [show errV (rangeE false) = .nilIface from rfl]
  have hb4 := b3.trans (b4.mono b3.size)
  have HW4 := hidW (HW2.out.trans (hb4.mono HW2.out.size))
  have hRS4 := (hb4.block F (Array.getElem?_eq_some_iff.1 hRS).1).trans hRS
  clear b3 b4 hb4 HS hRS HW2
  obtain ⟨s0, s1, s2, s3, s4, s5, s6, -⟩ := rowSeven hRS4
  go_wp2_with fail
  refine (HK.out _).mono ?_
  rintro x w5 ⟨rfl, b5⟩
  have HW5 := hidW (HW4.out.trans (b5.mono HW4.out.size))
  have hRS5 := (b5.block F (Array.getElem?_eq_some_iff.1 hRS4).1).trans hRS4
  clear s0 s1 s2 s3 s4 s5 s6 b5 hRS4 HW4 HK
  obtain ⟨s0, s1, s2, s3, s4, s5, s6, -⟩ := rowSeven hRS5
  obtain ⟨-, -, g0, g1⟩ := HSO.out w5 HW5.out
  go_upto_region 8 with fail
  generalize min r3 qty = M at *
  generalize qty - M = N at *
  go_region_with (first | (go_at_call 19; with_reducible refine (HLE.out _).mono ?_; rintro x w6 ⟨rfl, b6⟩; have HW6 := hidW (HW5.out.drew.trans (b6.mono HW5.out.drew.size)); obtain ⟨-, -, k0, k1⟩ := HSO.out w6 HW6.out) | (go_at_call 18; with_reducible refine (HRE.out _ ?_).mono ?_; (repeat' (first | with_reducible exact HW6.out | with_reducible assumption | with_reducible refine Below.drew ?_)); rintro x w7 ⟨u1, u2, m1, m2, d1, d2, rfl, D1, D2, b7⟩; obtain ⟨hww, hRP, -, -⟩ := HSO.out w7 b7; obtain ⟨z0, z1, zf⟩ := rowTwo hRP; have zf0 := zf 0; have zf1 := zf 1))
  all_goals
    have hgg := grTwo w7 P (.slice u1 m1 d1) (.slice u2 m2 d2)
    have HHX := hidW (setTwo hRP (.slice u1 m1 d1) (.slice u2 m2 d2))
    have HPO := hidW (show DL ((w7.setCell ⟨P, 0, none⟩ (.slice u1 m1 d1)).setCell ⟨P, 1, none⟩ (.slice u2 m2 d2)) w.heap.size (.slice u1 m1 d1) KB ∧ DL ((w7.setCell ⟨P, 0, none⟩ (.slice u1 m1 d1)).setCell ⟨P, 1, none⟩ (.slice u2 m2 d2)) w.heap.size (.slice u2 m2 d2) KS ∧ Below w.heap.size w ((w7.setCell ⟨P, 0, none⟩ (.slice u1 m1 d1)).setCell ⟨P, 1, none⟩ (.slice u2 m2 d2)) from
      ⟨(D1.other hgg HP.out.2.2).mono HP.out.2.1, (D2.other hgg HP.out.2.2).mono HP.out.2.1, hww.grown hgg hww.size (fun k hk => by cases hk; exact HP.out.1)⟩)
    clear zf hRP hww hgg D1 D2
    go_wp2_with fail
    generalize ((w7.setCell ⟨P, 0, none⟩ (.slice u1 m1 d1)).setCell ⟨P, 1, none⟩ (.slice u2 m2 d2)) = Z at *
    obtain ⟨y0, y1, -⟩ := rowTwo HHX.out
    exact bodyPost_ret (v := .tuple #[.agg #[.slice u1 m1 d1, .slice u2 m2 d2], .slice none 0 0, .int .i64 0, .nilIface]) (by simp [results, Try.results5, go_sem, y0, y1]) rfl ⟨_, _, _, _, _, _, rfl, HPO.out⟩
set_option maxRecDepth 100000 in
set_option maxHeartbeats 4000000 in
theorem sdo_new (q1 q2 : Option Addr) (n1 n2 c1 c2 : Nat) (bs ss : List L) (id s p r1 r2 r3 r4 r5 price qty : Int) (i k : Nat) (w : World) (h1 : LS w (.slice q1 n1 c1) bs) (h2 : LS w (.slice q2 n2 c2) ss) (hA : At bs ss id s p ⟨r1, r2, r3, r4, r5⟩ i k) (hpr : priceB price = true) (hq : (decide (1 ≤ qty) && decide (qty ≤ 10000)) = true) (hkb : keepB p ⟨r1, r2, r3, r4, r5⟩ price qty = false) :
    Calls Try.prog 5 #[.agg #[.slice q1 n1 c1, .slice q2 n2 c2], .int .i64 id, .int .i64 price, .int .i64 qty] w fun e w' => KDPost (cB s bs i k) (cS s ss i k) ⟨r1, r2, s, 1, price, qty, min r5 qty, 0⟩ w e w' := by
  obtain ⟨V1, hV1⟩ : ∃ V1, V1 = w.alloc (.cells #[.slice q1 n1 c1, .slice q2 n2 c2] 24) := ⟨_, rfl⟩
  obtain ⟨V, hV⟩ : ∃ V, V = V1.alloc (.cells #[.slice none 0 0, .slice none 0 0] 24) := ⟨_, rfl⟩
  have hs1 : V1.heap.size = w.heap.size + 1 := by rw [hV1]; simp
  have hb1 : Below w.heap.size w V1 := by rw [hV1]; exact (Below.refl _ _).alloc (Nat.le_refl _) _
  have hb2 : Below V1.heap.size V1 V := by rw [hV]; exact (Below.refl _ _).alloc (Nat.le_refl _) _
  have hBV : Below w.heap.size w V := hb1.trans (hb2.mono hb1.size)
  have hr1 : V.heap[w.heap.size]? = some (.cells #[.slice q1 n1 c1, .slice q2 n2 c2] 24 (0, 0)) := by rw [hb2.block _ (by omega), hV1]; exact heap_alloc_new w _
  have hr2 : V.heap[w.heap.size + 1]? = some (.cells #[.slice none 0 0, .slice none 0 0] 24 (0, 0)) := by rw [← hs1, hV]; exact heap_alloc_new V1 _
  obtain ⟨P, hP⟩ : ∃ P, P = w.heap.size + 1 := ⟨_, rfl⟩
  obtain ⟨G, hG⟩ : ∃ G, G = w.heap.size := ⟨_, rfl⟩
  rw [← hP] at hr2
  rw [← hG] at hr1
  have hPV : P < V.heap.size := (Array.getElem?_eq_some_iff.1 hr2).1
  have hGV : G < V.heap.size := (Array.getElem?_eq_some_iff.1 hr1).1
  have HP : Hid (w.heap.size ≤ P ∧ w.heap.size ≤ V.heap.size ∧ P < V.heap.size) := ⟨by omega, hBV.size, hPV⟩
  have HSO : Hid (∀ W, Below V.heap.size V W → Below w.heap.size w W ∧ W.heap[P]? = some (.cells #[.slice none 0 0, .slice none 0 0] 24 (0, 0)) ∧ W.cell? ⟨G, 0, none⟩ = some (.slice q1 n1 c1) ∧ W.cell? ⟨G, 1, none⟩ = some (.slice q2 n2 c2)) := fun W hW => by
    obtain ⟨y0, y1, -⟩ := rowTwo ((hW.block G hGV).trans hr1)
    exact ⟨hBV.trans (hW.mono hBV.size), (hW.block P hPV).trans hr2, y0, y1⟩
  have HLS : Hid (∀ W, Below w.heap.size w W → LS W (.slice q1 n1 c1) bs ∧ LS W (.slice q2 n2 c2) ss) := fun W hW => ⟨h1.below hW, h2.below hW⟩
  have HBV := hidW hBV
  have HF := hidW (sfind_at q1 q2 n1 n2 c1 c2 bs ss id s p r1 r2 r3 r4 r5 price i k V (h1.below hBV) (h2.below hBV) hA hpr)
  have HK := hidW (fun W => skeeps_any s p r1 r2 r3 r4 r5 price qty W hA.rest)
  rw [hkb] at HK
  have HAN := hidW (fun W => anew_any s r1 r2 r3 r4 r5 price qty W)
  have HCA : Hid (∀ W, Below V.heap.size V W → Calls Try.prog 9 #[.agg #[.slice q1 n1 c1, .slice q2 n2 c2], .int .i64 id] W fun e w' => ∃ u1 u2 m1 m2 d1 d2, e = .returned (.tuple #[.agg #[.slice u1 m1 d1, .slice u2 m2 d2], .agg #[.int .i64 r1, .int .i64 r2, .int .i64 r3, .int .i64 r4, .int .i64 r5], .nilIface]) ∧ DL w' W.heap.size (.slice u1 m1 d1) (cB s bs i k) ∧ DL w' W.heap.size (.slice u2 m2 d2) (cS s ss i k) ∧ Below W.heap.size W w') := fun W hW => by
    have hwW := hBV.trans (hW.mono hBV.size)
    exact bcancel_at q1 q2 n1 n2 c1 c2 bs ss id s p r1 r2 r3 r4 r5 i k W (h1.below hwW) (h2.below hwW) hA
  obtain ⟨MM, hMM⟩ : ∃ MM, MM = min r5 qty := ⟨_, rfl⟩
  rw [← hMM] at HAN ⊢
  clear hMM
  obtain ⟨CB, hCB⟩ : ∃ CB, CB = cB s bs i k := ⟨_, rfl⟩
  obtain ⟨CS, hCS⟩ : ∃ CS, CS = cS s ss i k := ⟨_, rfl⟩
  rw [← hCB, ← hCS] at HCA ⊢
  clear h1 h2 hs1 hb1 hb2 hBV hr1 hr2 hPV hGV
  clear hA hpr hkb hCB hCS
  obtain ⟨-, -, g0, g1⟩ := HSO.out V (Below.refl _ _)
  go_enter Try.func5, Try.ntmps5
  go_wp2_with fail
  rw [← hV1, ← hV]
  simp only [← hP]
  simp only [← hG]
  clear hV1 hV hP hG
  refine HF.out.mono ?_
  rintro x w1 ⟨rfl, b1⟩
  have hBa : Below w1.heap.size w1 (w1.alloc (.cells #[.int .i64 s, .int .i64 p, .int .i64 r1, .int .i64 r2, .int .i64 r3, .int .i64 r4, .int .i64 r5] 51)) := (Below.refl _ _).alloc (Nat.le_refl _) _
  have HW2 := hidW (b1.trans (hBa.mono b1.size))
  have hRS : (w1.alloc (.cells #[.int .i64 s, .int .i64 p, .int .i64 r1, .int .i64 r2, .int .i64 r3, .int .i64 r4, .int .i64 r5] 51)).heap[w1.heap.size]? = some (.cells #[.int .i64 s, .int .i64 p, .int .i64 r1, .int .i64 r2, .int .i64 r3, .int .i64 r4, .int .i64 r5] 51 (0, 0)) := heap_alloc_new w1 _
  clear b1 hBa HF g0 g1
  go_upto_if 25 with fail
  generalize w1.alloc (.cells #[.int .i64 s, .int .i64 p, .int .i64 r1, .int .i64 r2, .int .i64 r3, .int .i64 r4, .int .i64 r5] 51) = W2 at *
  generalize w1.heap.size = F at *
  have HS := hidW (qty_span qty false hq)
  clear hq
  go_wp2_with fail
  refine (qty_any qty W2).mono ?_
  rintro x w3 ⟨rfl, b3⟩
  go_wp2_with fail
  refine (scheck1 false _ _ _ _ _ rfl HS.out).mono ?_
  rintro x w4 ⟨rfl, b4⟩
  simp only [show errV (rangeE false) = .nilIface from rfl]
  have hb4 := b3.trans (b4.mono b3.size)
  have HW4 := hidW (HW2.out.trans (hb4.mono HW2.out.size))
  have hRS4 := (hb4.block F (Array.getElem?_eq_some_iff.1 hRS).1).trans hRS
  clear b3 b4 hb4 HS hRS HW2
  obtain ⟨s0, s1, s2, s3, s4, s5, s6, -⟩ := rowSeven hRS4
  go_wp2_with fail
  refine (HK.out _).mono ?_
  rintro x w5 ⟨rfl, b5⟩
  have HW5 := hidW (HW4.out.trans (b5.mono HW4.out.size))
  have hRS5 := (b5.block F (Array.getElem?_eq_some_iff.1 hRS4).1).trans hRS4
  clear s0 s1 s2 s3 s4 s5 s6 b5 hRS4 HW4 HK
  obtain ⟨-, -, g0, g1⟩ := HSO.out w5 HW5.out
  go_wp2_with fail
  refine (HCA.out _ HW5.out).mono ?_
  rintro x w6 ⟨u1, u2, m1, m2, d1, d2, rfl, D1, D2, b6⟩
  obtain ⟨W7, hW7⟩ : ∃ W7, W7 = (w6.alloc (.cells #[.slice u1 m1 d1, .slice u2 m2 d2] 24)).alloc (.cells #[.int .i64 r1, .int .i64 r2, .int .i64 r3, .int .i64 r4, .int .i64 r5] 26) := ⟨_, rfl⟩
  have hb7 : Below w6.heap.size w6 W7 := by rw [hW7]; exact ((Below.refl _ _).alloc (Nat.le_refl _) _).alloc (by simp) _
  have hRB : W7.heap[w6.heap.size]? = some (.cells #[.slice u1 m1 d1, .slice u2 m2 d2] 24 (0, 0)) := by
    rw [hW7, ((Below.refl _ _).alloc (Nat.le_refl _) _).block _ (by simp)]; exact heap_alloc_new w6 _
  have hb67 := b6.trans (hb7.mono b6.size)
  have HW7 := hidW (HW5.out.trans (hb67.mono HW5.out.size))
  have hRS7 := (hb67.block F (Array.getElem?_eq_some_iff.1 hRS5).1).trans hRS5
  have HDL := hidW (And.intro (D1.below hb7) (D2.below hb7))
  clear D1 D2 b6 hb7 hb67 hRS5 g0 g1 HCA
  go_upto_if 54 with fail
  rw [← hW7]
  clear hW7
  generalize w6.heap.size = LB at *
  obtain ⟨s0, s1, s2, s3, s4, s5, s6, -⟩ := rowSeven hRS7
  obtain ⟨l0, l1, -⟩ := rowTwo hRB
  have HKD : Hid (∀ W, Below W7.heap.size W7 W → Calls Try.prog 12 #[.agg #[.slice u1 m1 d1, .slice u2 m2 d2], .agg #[.int .i64 r1, .int .i64 r2, .int .i64 s, .int .i64 1, .int .i64 price, .int .i64 qty, .int .i64 MM, .int .i64 0]] W fun e w' => ∃ x1 x2 y1 y2 z1 z2 tq tn tc gg ev, e = .returned (.tuple #[.agg #[.slice x1 y1 z1, .slice x2 y2 z2], .slice tq tn tc, .int .i64 gg, ev]) ∧ Hid (KDPost CB CS ⟨r1, r2, s, 1, price, qty, MM, 0⟩ W e w') ∧ Hid (W7.heap.size ≤ W.heap.size) ∧ Below W7.heap.size W7 w') := fun W hW => by
    refine (kdo_any u1 u2 m1 m2 d1 d2 CB CS r1 r2 s 1 price qty MM 0 W (HDL.out.1.ls.below hW) (HDL.out.2.ls.below hW)).mono ?_
    intro e w' h
    obtain ⟨x1, x2, y1, y2, z1, z2, tq, tn, tc, gg, ev, he⟩ := kdp_form h
    exact ⟨x1, x2, y1, y2, z1, z2, tq, tn, tc, gg, ev, he, h, hW.size, hW.trans (h.2.2.mono hW.size)⟩
  have HPK : Hid (∀ W, Below W7.heap.size W7 W → W.cell? ⟨LB, 0, none⟩ = some (.slice u1 m1 d1) ∧ W.cell? ⟨LB, 1, none⟩ = some (.slice u2 m2 d2)) := fun W hW => ⟨keeps hW l0, keeps hW l1⟩
  clear HDL
  go_upto_region 12 with fail
  go_region_with (first | (go_at_call 20; with_reducible refine (HAN.out _).mono ?_; rintro x w8 ⟨rfl, b8⟩; have HW8 := hidW ((Below.refl W7.heap.size W7).drew.trans (b8.mono (Below.refl W7.heap.size W7).drew.size)); obtain ⟨k0, k1⟩ := HPK.out w8 HW8.out) | (go_at_call 12; with_reducible refine (HKD.out _ ?_).mono ?_; (repeat' (first | with_reducible exact HW8.out | with_reducible assumption | with_reducible refine Below.drew ?_)); rintro x w9 ⟨x1, x2, y1, y2, v1, v2, tq, tn, tc, gg, ev, rfl, HPST, HSZ, b9⟩; obtain ⟨hww, hRP, -, -⟩ := HSO.out w9 (HW7.out.trans (b9.mono HW7.out.size)); obtain ⟨z0, z1, zf⟩ := rowTwo hRP; have zf0 := zf 0; have zf1 := zf 1))
  all_goals
    have hgg := grTwo w9 P (.slice x1 y1 v1) (.slice x2 y2 v2)
    have HHX := hidW (setTwo hRP (.slice x1 y1 v1) (.slice x2 y2 v2))
    have HPO := hidW (kdp_move (w := w) HPST.out hgg (by have h1 := HP.out; have h2 := HW7.out.size; have h3 := HSZ.out; omega) (by have h1 := HP.out; have h2 := HW7.out.size; have h3 := HSZ.out; omega) (hww.grown hgg hww.size (fun k hk => by cases hk; exact HP.out.1)))
    clear zf hRP hww hgg HPST
    go_wp2_with fail
    generalize ((w9.setCell ⟨P, 0, none⟩ (.slice x1 y1 v1)).setCell ⟨P, 1, none⟩ (.slice x2 y2 v2)) = Z at *
    obtain ⟨e0, e1, -⟩ := rowTwo HHX.out
    exact bodyPost_ret (v := .tuple #[.agg #[.slice x1 y1 v1, .slice x2 y2 v2], .slice tq tn tc, .int .i64 gg, ev]) (by simp [results, Try.results5, go_sem, e0, e1]) rfl HPO.out
end Go.Proofs.Ytjphhieloicdeaa.swp
