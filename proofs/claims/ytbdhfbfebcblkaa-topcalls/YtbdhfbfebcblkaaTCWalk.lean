/- Contracts over this seat's translation: book.Count of a book that is right. The law's own help: pittop.one. The walk of TopCalls. -/
import Derived.Test.YtbdhfbfebcblkaaBokPut2
import Derived.Test.YtbdhfbfebcblkaaBokRests
import Derived.Test.YtbdhfbfebcblkaaTCBook
namespace Go.Proofs.Ytbdhfbfebcblkaa.bok
open Go.RowKit Go.Proofs.Ytbdhfbfebcblkaa.spn Go.Proofs.Ytbdhfbfebcblkaa.que Go.Proofs.Ytbdhfbfebcblkaa.sid

set_option maxRecDepth 100000 in
set_option maxHeartbeats 2000000 in
theorem count_good (q1 q2 : Option Addr) (n1 n2 c1 c2 : Nat) (bs ss : List L) (w : World) (h1 : LS w (.slice q1 n1 c1) bs) (h2 : LS w (.slice q2 n2 c2) ss) (h0 : bookE bs ss = 0) :
    Calls Try.prog 8 #[.agg #[.slice q1 n1 c1, .slice q2 n2 c2]] w fun e w' => e = .returned (.tuple #[.int .i64 ((allR bs ++ allR ss).length : Nat), .nilIface]) ∧ Below w.heap.size w w' := by
  have HCH := fun W (hW : Below w.heap.size w W) => check_any q1 q2 n1 n2 c1 c2 bs ss W (h1.below hW) (h2.below hW)
  rw [h0, errV_zero] at HCH
  obtain ⟨e1, e2, -⟩ := book_zero h0
  have HRE : Hid (∀ W, Below w.heap.size w W → Calls Try.prog 28 #[.agg #[.slice q1 n1 c1, .slice q2 n2 c2]] W fun e w' => ∃ v, e = .returned v ∧ OwnQ w' W.heap.size v (allR bs ++ allR ss) ∧ Below W.heap.size W w') := fun W hW => rests_any q1 q2 n1 n2 c1 c2 bs ss W (h1.below hW) (h2.below hW) (side_ne e1) (side_ne e2) (schk_zero e1).2.2.1 (schk_zero e2).2.2.1
  generalize allR bs ++ allR ss = AR at *
  obtain ⟨V, hV⟩ : ∃ V, V = w.alloc (.cells #[.slice q1 n1 c1, .slice q2 n2 c2] 31) := ⟨_, rfl⟩
  have HB : Hid (Below w.heap.size w V) := by rw [hV]; exact (Below.refl _ _).alloc (Nat.le_refl _) _
  have v0 : V.cell? ⟨w.heap.size, 0, none⟩ = some (.slice q1 n1 c1) := by rw [hV]; simp [go_sem]
  have v1 : V.cell? ⟨w.heap.size, 1, none⟩ = some (.slice q2 n2 c2) := by rw [hV]; simp [go_sem]
  have hVs : w.heap.size < V.heap.size := by rw [hV]; simp
  clear h1 h2 h0 e1 e2
  go_enter Try.func8, Try.ntmps8
  go_wp2_with fail
  rw [← hV]
  refine (HCH V HB.out).mono ?_
  rintro e w1 ⟨rfl, b1⟩
  have HB1 : Hid (Below w.heap.size w w1) := HB.out.trans (b1.mono HB.out.size)
  have x0 := keeps b1 v0
  have x1 := keeps b1 v1
  have hs1 : w.heap.size < w1.heap.size := Nat.lt_of_lt_of_le hVs b1.size
  clear b1 HCH v0 v1
  go_wp2_with fail
  refine (HRE.out w1 HB1.out).mono ?_
  rintro e w4 ⟨v, rfl, hO, b4⟩
  have HB4 : Hid (Below w.heap.size w w4) := HB1.out.trans (b4.mono HB1.out.size)
  obtain ⟨q4, c4, rfl⟩ := OwnM.form hO
  clear b4 HRE hO x0 x1
  go_wp2_with fail
  go_ret2
  exact ⟨rfl, HB4.out⟩
end Go.Proofs.Ytbdhfbfebcblkaa.bok
namespace Go.Proofs.Ytbdhfbfebcblkaa.tcw
open Go.RowKit Go.Proofs.Ytbdhfbfebcblkaa.spn Go.Proofs.Ytbdhfbfebcblkaa.que Go.Proofs.Ytbdhfbfebcblkaa.sid Go.Proofs.Ytbdhfbfebcblkaa.bok Go.Proofs.Ytbdhfbfebcblkaa.mee Go.Proofs.Ytbdhfbfebcblkaa.kin

/-- One rest of one level as they are laid. -/
theorem one_lay (w : World) : LS ((w.alloc (.cells #[.int .i64 1, .int .i64 1, .int .i64 5, .int .i64 0, .int .i64 0] 41)).alloc (.cells #[.int .i64 100, .slice (some ⟨w.heap.size, 0, none⟩) 1 1] 44)) (.slice (some ⟨w.heap.size + 1, 0, none⟩) 1 1) [⟨100, [⟨1, 1, 5, 0, 0⟩]⟩] := by
  obtain ⟨w1, h1⟩ : ∃ w1, w1 = w.alloc (.cells #[.int .i64 1, .int .i64 1, .int .i64 5, .int .i64 0, .int .i64 0] 41) := ⟨_, rfl⟩
  have hs1 : w1.heap.size = w.heap.size + 1 := by rw [h1]; simp
  have hr1 := heap_alloc_new w (.cells #[.int .i64 1, .int .i64 1, .int .i64 5, .int .i64 0, .int .i64 0] 41)
  rw [← h1] at hr1 ⊢
  obtain ⟨w2, h2⟩ : ∃ w2, w2 = w1.alloc (.cells #[.int .i64 100, .slice (some ⟨w.heap.size, 0, none⟩) 1 1] 44) := ⟨_, rfl⟩
  have hr2 := heap_alloc_new w1 (.cells #[.int .i64 100, .slice (some ⟨w.heap.size, 0, none⟩) 1 1] 44)
  have hB2 : Below w1.heap.size w1 w2 := by rw [h2]; exact (Below.refl _ _).alloc (Nat.le_refl _) _
  rw [← h2] at hr2 ⊢
  have hr1' := (hB2.block w.heap.size (by omega)).trans hr1
  rw [hs1] at hr2
  have hQ : que.OwnQ w2 0 (.slice (some ⟨w.heap.size, 0, none⟩) 1 1) [⟨1, 1, 5, 0, 0⟩] := ⟨rfl, .inr ⟨w.heap.size, 0, 1, _, rfl, Nat.zero_le _, hr1', Nat.le_refl _, by unfold maxLen; omega, by simp, rfl⟩⟩
  have hLv : rlv.OwnQ w2 0 (.slice (some ⟨w.heap.size + 1, 0, none⟩) 1 1) [⟨100, some ⟨w.heap.size, 0, none⟩, 1, 1⟩] := ⟨rfl, .inr ⟨w.heap.size + 1, 0, 1, _, rfl, Nat.zero_le _, hr2, Nat.le_refl _, by unfold maxLen; omega, by simp, rfl⟩⟩
  have h : LS w2 (.slice (some ⟨w.heap.size + 1, 0, none⟩) 1 1) (([(⟨100, some ⟨w.heap.size, 0, none⟩, 1, 1⟩, [⟨1, 1, 5, 0, 0⟩])] : List RP).map toL) :=
    Loose.ls ⟨rlv.OwnQ.sl hLv, fun p hp => by simp only [List.mem_singleton] at hp; subst hp; exact .inl (que.OwnQ.sl hQ)⟩
  exact h

theorem one_E : kdoE [] [⟨100, [⟨1, 1, 5, 0, 0⟩]⟩] ⟨2, 2, 1, 3, 101, 7, 0, 0⟩ = 0 := by decide
theorem one_G : kdoG [] [⟨100, [⟨1, 1, 5, 0, 0⟩]⟩] ⟨2, 2, 1, 3, 101, 7, 0, 0⟩ = 2 := by decide
theorem one_T : (metR [] [⟨100, [⟨1, 1, 5, 0, 0⟩]⟩] ⟨2, 2, 1, 3, 101, 7, 0, 0⟩).2.1 = [⟨1, 2, 1, 2, 100, 5⟩] := by decide

set_option maxHeartbeats 2000000 in
set_option maxRecDepth 100000 in
theorem one_any (w : World) : Calls Try.prog 4 #[] w fun e w' => e = .returned (.bool true) ∧ Below w.heap.size w w' := by
  have hl := one_lay w
  obtain ⟨V, hV⟩ : ∃ V, V = ((w.alloc (.cells #[.int .i64 1, .int .i64 1, .int .i64 5, .int .i64 0, .int .i64 0] 41)).alloc (.cells #[.int .i64 100, .slice (some ⟨w.heap.size, 0, none⟩) 1 1] 44)).alloc (.cells #[.slice none 0 0, .slice (some ⟨w.heap.size + 1, 0, none⟩) 1 1] 31) := ⟨_, rfl⟩
  have hB1 : Below w.heap.size w ((w.alloc (.cells #[.int .i64 1, .int .i64 1, .int .i64 5, .int .i64 0, .int .i64 0] 41)).alloc (.cells #[.int .i64 100, .slice (some ⟨w.heap.size, 0, none⟩) 1 1] 44)) := ((Below.refl _ _).alloc (Nat.le_refl _) _).alloc (by simp) _
  have hB2 : Below w.heap.size w V := by rw [hV]; exact hB1.alloc hB1.size _
  have hl2 : LS V (.slice (some ⟨w.heap.size + 1, 0, none⟩) 1 1) [⟨100, [⟨1, 1, 5, 0, 0⟩]⟩] := by rw [hV]; exact hl.below ((Below.refl _ _).alloc (Nat.le_refl _) _)
  have hK := kdo_any none (some ⟨w.heap.size + 1, 0, none⟩) 0 1 0 1 [] [⟨100, [⟨1, 1, 5, 0, 0⟩]⟩] 2 2 1 3 101 7 0 0 V (ls_nil V) hl2
  have HK := hidK hK
  have HB2 := hidK hB2
  clear hl hB1 hB2 hl2 hK
  go_enter Try.func4, Try.ntmps4
  go_wp2_with fail
  rw [← hV]
  refine HK.out.mono ?_
  rintro e w1 ⟨hp, -, hb⟩
  obtain ⟨q1, q2, n1, n2, c1, c2, tv, rfl, -, -, hT⟩ := hp one_E
  rw [one_G]
  rw [one_T] at hT
  have HB3 := hidK (HB2.out.trans (hb.mono HB2.out.size))
  obtain ⟨g, off, cap, rfl, hc⟩ : ∃ g off cap, tv = .slice (some ⟨g, off, none⟩) 1 cap ∧ g < w1.heap.size ∧ w1.cell? ⟨g, off + 5, none⟩ = some (.int .i64 5) := by
    rcases hT.2 with ⟨h1, h2⟩ | ⟨g, off, cap, cur, h1, -, h3, h4, h5, h6, h7⟩
    · simp at h2
    · refine ⟨g, off, cap, h1, (Array.getElem?_eq_some_iff.1 h3).1, ?_⟩
      rw [cell_of_row w1 g (off + 5) cur _ (0, 0) h3]
      have e : ((cur.toList.drop off).take (1 * 6))[5]? = some (.int .i64 5) := by
        have h7' : (cur.toList.drop off).take (1 * 6) = mee.flatT [⟨1, 2, 1, 2, 100, 5⟩] := h7
        rw [h7']; rfl
      rw [List.getElem?_take, if_pos (by decide), List.getElem?_drop] at e
      simpa using e
  have hg := hc.1
  have hc5 := hc.2
  have HB4 : Hid (Below w.heap.size w (w1.alloc (.cells #[.slice q1 n1 c1, .slice q2 n2 c2] 31))) := HB3.out.alloc HB3.out.size _
  clear hc hp hb hT HK HB2 HB3 hV
  go_wp2_with fail
  go_ret
  exact ⟨rfl, HB4.out⟩
end Go.Proofs.Ytbdhfbfebcblkaa.tcw
namespace Go.Proofs.Ytbdhfbfebcblkaa.tcw
open Go.RowKit Go.Proofs.Ytbdhfbfebcblkaa.spn Go.Proofs.Ytbdhfbfebcblkaa.sid Go.Proofs.Ytbdhfbfebcblkaa.bok Go.Proofs.Ytbdhfbfebcblkaa.kin Go.Proofs.Ytbdhfbfebcblkaa.cal
open Go.Proofs.Ytbdhfbfebcblkaa.ord (O chk)
open Go.Proofs.Ytbdhfbfebcblkaa.wak (SL oL Lies getE)

/-- The new book is laid behind the call. -/
theorem end_a {wr V V9 : World} {X : Nat} {r1 r2 : Option Addr} {m1 m2 k1 k2 : Nat} {B1 S1 : List L} (hX : X < wr.heap.size) (hV : Below wr.heap.size wr V) (hb : Below V.heap.size V V9) (h1 : DL V9 V.heap.size (.slice r1 m1 k1) B1) (h2 : DL V9 V.heap.size (.slice r2 m2 k2) S1) :
    X < V9.heap.size ∧ Below wr.heap.size wr (V9.alloc (.cells #[.slice r1 m1 k1, .slice r2 m2 k2] 31)) ∧ (V9.alloc (.cells #[.slice r1 m1 k1, .slice r2 m2 k2] 31)).heap[V9.heap.size]? = some (.cells #[.slice r1 m1 k1, .slice r2 m2 k2] 31 (0, 0)) ∧ DL (V9.alloc (.cells #[.slice r1 m1 k1, .slice r2 m2 k2] 31)) (X + 1) (.slice r1 m1 k1) B1 ∧ DL (V9.alloc (.cells #[.slice r1 m1 k1, .slice r2 m2 k2] 31)) (X + 1) (.slice r2 m2 k2) S1 := by
  have hs := hV.size
  have hs9 := hb.size
  have hB9 := hV.trans (hb.mono hV.size)
  exact ⟨by omega, hB9.alloc hB9.size _, heap_alloc_new V9 _, (h1.below ((Below.refl _ _).alloc (Nat.le_refl _) _)).mono (by omega), (h2.below ((Below.refl _ _).alloc (Nat.le_refl _) _)).mono (by omega)⟩
/-- The new book was laid ahead of the call. -/
theorem end_b {wr V V9 : World} {X : Nat} {r1 r2 : Option Addr} {m1 m2 k1 k2 : Nat} {B1 S1 : List L} (hX : X < wr.heap.size) (hV : Below wr.heap.size wr V) (hVs : wr.heap.size < V.heap.size) (hr : V.heap[wr.heap.size]? = some (.cells #[.slice none 0 0, .slice none 0 0] 31 (0, 0))) (hb : Below V.heap.size V V9) (h1 : DL V9 V.heap.size (.slice r1 m1 k1) B1) (h2 : DL V9 V.heap.size (.slice r2 m2 k2) S1) :
    X < wr.heap.size ∧ Below wr.heap.size wr ((V9.setCell ⟨wr.heap.size, 0, none⟩ (.slice r1 m1 k1)).setCell ⟨wr.heap.size, 1, none⟩ (.slice r2 m2 k2)) ∧ ((V9.setCell ⟨wr.heap.size, 0, none⟩ (.slice r1 m1 k1)).setCell ⟨wr.heap.size, 1, none⟩ (.slice r2 m2 k2)).heap[wr.heap.size]? = some (.cells #[.slice r1 m1 k1, .slice r2 m2 k2] 31 (0, 0)) ∧ DL ((V9.setCell ⟨wr.heap.size, 0, none⟩ (.slice r1 m1 k1)).setCell ⟨wr.heap.size, 1, none⟩ (.slice r2 m2 k2)) (X + 1) (.slice r1 m1 k1) B1 ∧ DL ((V9.setCell ⟨wr.heap.size, 0, none⟩ (.slice r1 m1 k1)).setCell ⟨wr.heap.size, 1, none⟩ (.slice r2 m2 k2)) (X + 1) (.slice r2 m2 k2) S1 := by
  have hB9 := hV.trans (hb.mono hV.size)
  have hr9 := (hb.block _ hVs).trans hr
  have hg := grTwo V9 wr.heap.size (.slice r1 m1 k1) (.slice r2 m2 k2)
  exact ⟨hX, hB9.grown hg hB9.size (fun k hk => by cases hk; exact Nat.le_refl _), setTwo hr9 _ _, (h1.other hg hVs).mono (by omega), (h2.other hg hVs).mono (by omega)⟩

/-- What holds while orders come into the book at block X. -/
structure TcI (W : World) (X : Nat) (rs : List O) (k : Nat) (wr : World) : Prop where
  ex : X = W.heap.size
  far : Below W.heap.size W wr
  book : ∃ q1 q2 n1 n2 c1 c2 bs ss, wr.heap[X]? = some (.cells #[.slice q1 n1 c1, .slice q2 n2 c2] 31 (0, 0)) ∧ DL wr (X + 1) (.slice q1 n1 c1) bs ∧ DL wr (X + 1) (.slice q2 n2 c2) ss ∧ BkI rs k bs ss

set_option maxHeartbeats 4000000 in
set_option maxRecDepth 100000 in
theorem calls_walk (q : Option Addr) (n c : Nat) (zs : List O) (w : World) (hS : SL w (.slice q n c) zs) :
    Calls Try.prog 3 #[.slice q n c] w fun e w' => e = .returned (.bool true) ∧ Below w.heap.size w w' := by
  have HS := hidK hS
  clear hS
  go_enter Try.func3, Try.ntmps3
  go_wp2_with fail
  refine (one_any _).mono ?_
  rintro e w2 ⟨rfl, hb2⟩
  have HB2 := hidK hb2
  have hS2 := HS.out.below hb2
  clear hb2 HS
  by_cases hE : pE zs = 0
  · obtain ⟨hg, -, hVb, hV, -, -, -, -⟩ := price_zero hE
    have HU := hidK (uncross_fine _ zs w2 hS2 hE)
    have HG := hidK hg
    have HVV : Hid (pV zs = min (ws 1 (pP zs) zs) (ws 2 (pP zs) zs) ∧ pV zs = (best zs).vol) := ⟨hV, hVb⟩
    generalize pP zs = P at *
    generalize pV zs = V at *
    clear hg hVb hV hE hS2
    go_wp2_with fail
    refine HU.out.mono ?_
    rintro e w3 ⟨qt, mt, ct, qr, mr, cr, ts, os, rfl, -, hmr, hUU, hSh, hNn, -, -, hOr, -, hb3⟩
    have HB3 := hidK (HB2.out.trans (hb3.mono HB2.out.size))
    have hmx : ∀ o ∈ zs, (ofAt zs o.price).vol ≤ V := fun o ho => by rw [HVV.out.2]; exact best_ge zs o ho
    have hapt : Apt (os.filter nz) := ⟨good_rest HG.out hSh hNn, rest_apart HG.out HVV.out.1 hmx hUU hSh hNn⟩
    have hsl : SL w3 (.slice qr mr cr) (os.filter nz) := wak.OwnQ.sl (base := w2.heap.size) (by show wak.OwnM _ _ _ _ _ _ _; rw [← hmr]; exact hOr)
    generalize os.filter nz = rs at *
    have HAP := hidK hapt
    have HSL := hidK hsl
    have HMR := hidK hmr
    obtain ⟨X, hX⟩ : ∃ x, x = w3.heap.size := ⟨_, rfl⟩
    have H0 : Hid (TcI w3 X rs 0 (w3.alloc (.cells #[.slice none 0 0, .slice none 0 0] 31))) := ⟨hX, (Below.refl _ _).alloc (Nat.le_refl _) _, none, none, 0, 0, 0, 0, [], [], by rw [hX]; exact heap_alloc_new w3 _, dl_nil _ _, dl_nil _ _, BkI.start rs⟩
    clear HU hmr hUU hSh hNn hOr hb3 hmx hapt hsl
    go_wp2_with fail
    simp only [← hX]
    generalize w3.alloc (.cells #[.slice none 0 0, .slice none 0 0] 31) = W4 at H0 ⊢
    clear hX
    go_loopg [9, 10, 11, 12, 13] mr (fun gg s9 _ _ _ _ wr => ∃ kk : Nat, kk ≤ mr ∧ mr - kk ≤ gg ∧ s9 = .int .i64 kk ∧ Aside (TcI w3 X rs kk wr))
    case atStart => exact ⟨0, Nat.zero_le _, by omega, rfl, H0.out⟩
    case round =>
      clear H0
      obtain ⟨kk, hkk, hg, rfl, HA⟩ := hrel
      obtain ⟨q1, q2, n1, n2, c1, c2, bs, ss, hRow, hD1, hD2, hBk⟩ := HA.out.book
      have hmr := HMR.out
      have hex := HA.out.ex
      have hfar := HA.out.far
      have hXl : X < wr.heap.size := (Array.getElem?_eq_some_iff.1 hRow).1
      obtain ⟨d0, d1, df⟩ := rowTwo hRow
      by_cases hlt : kk < mr
      · have hlz : kk < rs.length := by omega
        obtain ⟨G, o, rfl, hG, hL⟩ := sl_some HSL.out (by omega)
        have hx := (hL.below hG hfar) kk hlz
        have hfew := HAP.out.good.few
        have hf : Fine rs[kk]! := by rw [getE rs kk hlz]; exact HAP.out.good.fine _ (List.getElem_mem _)
        obtain ⟨e1, e2, e3, e4, e5⟩ := hBk.does HAP.out hlz
        have hnx := hBk.next HAP.out hlz
        have HCK : Hid (∀ V, Calls Try.prog 7 #[.agg (oL rs[kk]!).toArray] V fun e w' => e = .returned .nilIface ∧ Below V.heap.size V w') := fun V => by
          have h := ord.check_any rs[kk]! V
          rw [hf.ok, ord.errV_zero] at h
          exact h
        rcases hxx : rs[kk]! with ⟨a1, a2, a3, a4, a5, a6, a7, a8⟩
        rw [hxx] at hx HCK e1 e2 e3 e4 e5 hnx
        rw [← e2, ← e3] at hnx
        have HKD : Hid (∀ V, Below wr.heap.size wr V → Calls Try.prog 6 #[.agg #[.slice q1 n1 c1, .slice q2 n2 c2], .agg #[.int .i64 a1, .int .i64 a2, .int .i64 a3, .int .i64 a4, .int .i64 a5, .int .i64 a6, .int .i64 a7, .int .i64 a8]] V fun e w' => ∃ r1 r2 m1 m2 k1 k2 tq tc, e = .returned (.tuple #[.agg #[.slice r1 m1 k1, .slice r2 m2 k2], .slice tq 0 tc, .int .i64 0, .nilIface]) ∧ DL w' V.heap.size (.slice r1 m1 k1) (kdoB bs ss ⟨a1, a2, a3, a4, a5, a6, a7, a8⟩) ∧ DL w' V.heap.size (.slice r2 m2 k2) (kdoS bs ss ⟨a1, a2, a3, a4, a5, a6, a7, a8⟩) ∧ Below V.heap.size V w') := fun V hV => by
          refine (kdo_any q1 q2 n1 n2 c1 c2 bs ss a1 a2 a3 a4 a5 a6 a7 a8 V (hD1.ls.below hV) (hD2.ls.below hV)).mono ?_
          rintro e w' ⟨hp, -, hb⟩
          obtain ⟨r1, r2, m1, m2, k1, k2, tv, rfl, hd1, hd2, hT⟩ := hp e1
          rw [e5] at hT
          obtain ⟨tq, tc, rfl⟩ : ∃ tq tc, tv = .slice tq 0 tc := by
            rcases hT.2 with ⟨h1, -⟩ | ⟨g, off, cap, cur, h1, -⟩
            · exact ⟨none, 0, h1⟩
            · exact ⟨_, _, h1⟩
          rw [e4]
          exact ⟨r1, r2, m1, m2, k1, k2, tq, tc, rfl, hd1, hd2, hb⟩
        have HCK2 : Hid (∀ V, Calls Try.prog 7 #[.agg #[.int .i64 a1, .int .i64 a2, .int .i64 a3, .int .i64 a4, .int .i64 a5, .int .i64 a6, .int .i64 a7, .int .i64 a8]] V fun e w' => e = .returned .nilIface ∧ Below V.heap.size V w') := HCK.out
        generalize kdoB bs ss ⟨a1, a2, a3, a4, a5, a6, a7, a8⟩ = B1 at HKD hnx
        generalize kdoS bs ss ⟨a1, a2, a3, a4, a5, a6, a7, a8⟩ = S1 at HKD hnx
        have HXC : Hid (∀ V, Below wr.heap.size wr V → ∀ i v, (oL ⟨a1, a2, a3, a4, a5, a6, a7, a8⟩)[i]? = some v → V.cell? ⟨G, o + kk * 8 + i, none⟩ = some v) := fun V hV i v hv => (hV.cell (p := ⟨G, o + kk * 8 + i, none⟩) (Nat.lt_of_lt_of_le hG hfar.size)).trans (hx i v hv)
        have HGX : Hid (G < X ∧ X = w3.heap.size ∧ X < wr.heap.size) := ⟨by omega, hex, hXl⟩
        have HFAR := hidK hfar
        have HROW := hidK hRow
        have HNX := hidK hnx
        have HM : Hid (kk < mr ∧ mr - kk ≤ gk ∧ kk ≤ 5000) := ⟨hlt, hg, by omega⟩
        have x0 := hx 0 _ rfl
        have x1 := hx 1 _ rfl
        have x2 := hx 2 _ rfl
        have x3 := hx 3 _ rfl
        have x4 := hx 4 _ rfl
        have x5 := hx 5 _ rfl
        have x6 := hx 6 _ rfl
        have x7 := hx 7 _ rfl
        simp only [Nat.add_zero] at x0
        have hltz : (kk : Int) < (mr : Int) := by omega
        have ei := succW kk HM.out.2.2
        have HRL : Hid ((wr.alloc (.cells #[.slice none 0 0, .slice none 0 0] 31)).heap[wr.heap.size]? = some (.cells #[.slice none 0 0, .slice none 0 0] 31 (0, 0))) := heap_alloc_new wr _
        have HSZ : Hid (wr.heap.size < (wr.alloc (.cells #[.slice none 0 0, .slice none 0 0] 31)).heap.size) := by show _ < _; simp
        have HRLd : Hid ((wr.alloc (.cells #[.slice none 0 0, .slice none 0 0] 31)).drew.heap[wr.heap.size]? = some (.cells #[.slice none 0 0, .slice none 0 0] 31 (0, 0))) := HRL.out
        have HSZd : Hid (wr.heap.size < (wr.alloc (.cells #[.slice none 0 0, .slice none 0 0] 31)).drew.heap.size) := HSZ.out
        have HAL : Hid (Below wr.heap.size wr (wr.alloc (.cells #[.slice none 0 0, .slice none 0 0] 31))) := (Below.refl _ _).alloc (Nat.le_refl _) _
        clear hx hxx hL hG hfew hf e1 e2 e3 e4 e5 hnx HCK hlz hkk hg hlt hmr hex hfar hRow hD1 hD2 hBk HA hXl
        have hGw : G < wr.heap.size := by have := HGX.out; clear ei; omega
        have hXw : X < wr.heap.size := HGX.out.2.2
        go_upto_region 11 with fail
        go_cut [10, 11, 12, 13] from 34 to 44 (fun s10 s11 s12 s13 wx => ∃ Y r1 r2 m1 m2 k1 k2 tq tc, s10 = .pointer (some ⟨Y, 0, none⟩) ∧ s11 = .slice tq 0 tc ∧ s12 = .int .i64 0 ∧ s13 = .nilIface ∧ Aside (X < Y ∧ Below wr.heap.size wr wx ∧ wx.heap[Y]? = some (.cells #[.slice r1 m1 k1, .slice r2 m2 k2] 31 (0, 0)) ∧ DL wx (X + 1) (.slice r1 m1 k1) B1 ∧ DL wx (X + 1) (.slice r2 m2 k2) S1))
        case first =>
          go_region_with (first | (go_at_call 6; with_reducible refine (HKD.out _ (Below.refl wr.heap.size wr)).mono ?_; rintro e V9 ⟨r1, r2, m1, m2, k1, k2, tq, tc, rfl, hd1, hd2, hb9⟩; have HEA := hidK (end_a HGX.out.2.2 (Below.refl wr.heap.size wr) hb9 hd1 hd2); clear hd1 hd2 hb9) | (go_at_call 6; with_reducible refine (HKD.out _ (Below.refl wr.heap.size wr).drew).mono ?_; rintro e V9 ⟨r1, r2, m1, m2, k1, k2, tq, tc, rfl, hd1, hd2, hb9⟩; have HEA := hidK (end_a HGX.out.2.2 (Below.refl wr.heap.size wr).drew hb9 hd1 hd2); clear hd1 hd2 hb9) | (go_at_call 6; (with_reducible refine (HKD.out _ HAL.out).mono ?_; rintro e V9 ⟨r1, r2, m1, m2, k1, k2, tq, tc, rfl, hd1, hd2, hb9⟩; have HEA := hidK (end_b HGX.out.2.2 HAL.out HSZ.out HRL.out hb9 hd1 hd2); obtain ⟨y0, y1, yf⟩ := rowTwo ((hb9.block wr.heap.size HSZ.out).trans HRL.out); clear hd1 hd2 hb9)) | (go_at_call 6; (with_reducible refine (HKD.out _ HAL.out.drew).mono ?_; rintro e V9 ⟨r1, r2, m1, m2, k1, k2, tq, tc, rfl, hd1, hd2, hb9⟩; have HEA := hidK (end_b HGX.out.2.2 HAL.out.drew HSZd.out HRLd.out hb9 hd1 hd2); obtain ⟨y0, y1, yf⟩ := rowTwo ((hb9.block wr.heap.size HSZd.out).trans HRLd.out); clear hd1 hd2 hb9)))
          all_goals (go_wp2_with fail; go_simp; go_meet; first | exact ⟨_, r1, r2, m1, m2, k1, k2, tq, tc, rfl, rfl, rfl, rfl, HEA.out⟩ | exact ⟨_, r1, r2, m1, m2, k1, k2, tq, tc, rfl, rfl, rfl, rfl, HEA.out.1, HEA.out.2.1.drew, HEA.out.2.2⟩)
        case rest =>
          obtain ⟨Y, r1, r2, m1, m2, k1, k2, tq, tc, rfl, rfl, rfl, rfl, HC⟩ := hcut
          clear x0 x1 x2 x3 x4 x5 x6 x7 d0 d1 df HKD HAL HRL HSZ HRLd HSZd
          have hC := HC.out
          have x0 := HXC.out wc hC.2.1 0 _ rfl
          have x1 := HXC.out wc hC.2.1 1 _ rfl
          have x2 := HXC.out wc hC.2.1 2 _ rfl
          have x3 := HXC.out wc hC.2.1 3 _ rfl
          have x4 := HXC.out wc hC.2.1 4 _ rfl
          have x5 := HXC.out wc hC.2.1 5 _ rfl
          have x6 := HXC.out wc hC.2.1 6 _ rfl
          have x7 := HXC.out wc hC.2.1 7 _ rfl
          simp only [Nat.add_zero] at x0
          clear hC
          go_wp2_with fail
          refine (HCK2.out _).mono ?_
          rintro e w5 ⟨rfl, hb5⟩
          have hC := HC.out
          have hB5 := hC.2.1.trans (hb5.mono hC.2.1.size)
          have hY5 : w5.heap[Y]? = some (.cells #[.slice r1 m1 k1, .slice r2 m2 k2] 31 (0, 0)) := (hb5.block Y (Array.getElem?_eq_some_iff.1 hC.2.2.1).1).trans hC.2.2.1
          have hX5 : w5.heap[X]? = some (.cells #[.slice q1 n1 c1, .slice q2 n2 c2] 31 (0, 0)) := (hB5.block X HGX.out.2.2).trans HROW.out
          have hg := grTwo w5 X (.slice r1 m1 k1) (.slice r2 m2 k2)
          have hF5 := HFAR.out.trans (hB5.mono HFAR.out.size)
          have HNXT : Hid (TcI w3 X rs (kk + 1) ((w5.setCell ⟨X, 0, none⟩ (.slice r1 m1 k1)).setCell ⟨X, 1, none⟩ (.slice r2 m2 k2))) := ⟨HGX.out.2.1, hF5.grown hg hF5.size (fun k hk => by cases hk; exact Nat.le_of_eq HGX.out.2.1.symm), r1, r2, m1, m2, k1, k2, B1, S1, setTwo hX5 _ _, (hC.2.2.2.1.below hb5).other hg (Nat.lt_succ_self X), (hC.2.2.2.2.below hb5).other hg (Nat.lt_succ_self X), HNX.out⟩
          obtain ⟨y0, y1, -⟩ := rowTwo hY5
          obtain ⟨d0, d1, df⟩ := rowTwo hX5
          have hne : ¬ Y = X := by have := hC.1; clear ei; omega
          clear x0 x1 x2 x3 x4 x5 x6 x7 hb5 hC hB5 hY5 hX5 hg hF5 HC HCK2 HXC
          go_wp2_with fail
          generalize (w5.setCell ⟨X, 0, none⟩ (.slice r1 m1 k1)).setCell ⟨X, 1, none⟩ (.slice r2 m2 k2) = w6 at HNXT ⊢
          clear y0 y1 d0 d1 df
          go_roundg (mr - (kk + 1))
          case measure => have := HM.out; clear ei; omega
          case rel => exact ⟨kk + 1, HM.out.1, Nat.le_refl _, by first | rfl | exact congrArg (Value.int .i64) ei, HNXT.out⟩
      · have hke : kk = mr := by omega
        subst hke
        have hltz : ¬ (kk : Int) < (kk : Int) := by omega
        have hbk := hBk.book HAP.out (by omega)
        have hln := hBk.len (by omega)
        have hcon := count_good q1 q2 n1 n2 c1 c2 bs ss wr hD1.ls hD2.ls hbk
        rw [hln] at hcon
        have HCN := hidK hcon
        have HFF := hidK (HB3.out.trans (hfar.mono HB3.out.size))
        have hee : ((kk : Int) == (kk : Int)) = true := by simp
        clear hbk hln hcon hBk hD1 hD2 hRow hfar hex hmr hXl HA hkk hg hlt
        go_wp2_with fail
        refine HCN.out.mono ?_
        rintro e w7 ⟨rfl, hb7⟩
        have HF7 := hidK (HFF.out.trans (hb7.mono HFF.out.size))
        clear hb7 HCN d0 d1 df
        go_wp2_with fail
        go_ret
        exact ⟨rfl, HF7.out⟩
  · have HU := hidK (uncross_bad _ zs w2 hS2 hE)
    rw [ord.errV_of hE] at HU
    generalize pE zs = K at *
    clear hE hS2
    go_wp2_with fail
    refine HU.out.mono ?_
    rintro e w3 ⟨rfl, hb3⟩
    have HB3 := hidK (HB2.out.trans (hb3.mono HB2.out.size))
    clear hb3 HU
    go_wp2_with fail
    go_ret
    exact ⟨rfl, HB3.out⟩
end Go.Proofs.Ytbdhfbfebcblkaa.tcw
