/- Contracts over this seat's translation: call.Uncross. -/
import Derived.Test.YtabcfmpmkdoieaaDoorCalTrd
import Derived.Test.YtabcfmpmkdoieaaDoorCalDel
import Derived.Test.YtabcfmpmkdoieaaDoorCalPri
namespace Go.Proofs.YtabcfmpmkdoieaaDoor.cal
open Go.RowKit Go.Proofs.YtabcfmpmkdoieaaDoor.ord
open Go.Proofs.YtabcfmpmkdoieaaDoor.wak (Lies SL oL OwnM OwnQ flat flat_len getE own_of own_range gr_below gr_trans)

theorem bestF_is (zs : List O) : ∀ (l : List O) (b : Of), bestF zs l b = b ∨ ∃ o ∈ l, bestF zs l b = ofAt zs o.price
  | [], b => .inl rfl
  | o :: t, b => by
    rw [bestF]
    by_cases h : bet (ofAt zs o.price) b = true
    · rw [if_pos h]
      rcases bestF_is zs t (ofAt zs o.price) with e | ⟨x, hx, e⟩
      · exact .inr ⟨o, List.mem_cons_self, e⟩
      · exact .inr ⟨x, List.mem_cons_of_mem _ hx, e⟩
    · rw [if_neg h]
      rcases bestF_is zs t b with e | ⟨x, hx, e⟩
      · exact .inl e
      · exact .inr ⟨x, List.mem_cons_of_mem _ hx, e⟩
/-- Where Price tells no error. -/
theorem price_zero {zs : List O} (h : pE zs = 0) : Good zs ∧ pP zs = (best zs).price ∧ pV zs = (best zs).vol ∧ pV zs = min (ws 1 (pP zs) zs) (ws 2 (pP zs) zs) ∧ 0 < pV zs ∧ pV zs ≤ 600000 ∧ prB (pP zs) = true ∧ ∃ o ∈ zs, pP zs = o.price := by
  have hc : cE zs = 0 := by
    unfold pE at h
    by_cases hc : cE zs = 0
    · exact hc
    · rw [if_neg hc] at h; exact h
  have hv : ¬ (best zs).vol = 0 := by
    unfold pE at h
    rw [if_pos hc] at h
    intro hv
    rw [if_pos hv] at h
    simp at h
  have hg := good_of hc
  have e1 : pP zs = (best zs).price := by unfold pP; rw [if_pos h]
  have e2 : pV zs = (best zs).vol := by unfold pV; rw [if_pos h]
  rcases bestF_is zs zs ⟨0, 0, 0⟩ with e | ⟨o, ho, e⟩
  · exact (hv (by unfold best; rw [e])).elim
  · have eb : best zs = ofAt zs o.price := e
    have e3 : pP zs = o.price := by rw [e1, eb]; rfl
    have e4 : pV zs = min (ws 1 (pP zs) zs) (ws 2 (pP zs) zs) := by rw [e2, e3, eb]; rfl
    have h1 := ws_small hg 1 (pP zs) zs.length
    have h2 := ws_small hg 2 (pP zs) zs.length
    rw [List.take_length] at h1 h2
    exact ⟨hg, e1, e2, e4, by omega, by omega, by rw [e3]; exact (hg.fine o ho).pr, o, ho, e3⟩

set_option maxHeartbeats 1000000 in
theorem uncross_bad (v : Value) (zs : List O) (w : World) (h : SL w v zs) (h0 : ¬ pE zs = 0) : Calls Tryd.prog 12 #[v] w fun e w' => e = .returned (.tuple #[.int .i64 0, .slice none 0 0, .slice none 0 0, errV (pE zs)]) ∧ Below w.heap.size w w' := by
  have HC := hidC (price_call v zs w h)
  rw [errV_of h0] at HC
  rw [errV_of h0]
  generalize pE zs = K at *
  generalize pP zs = P at *
  generalize pV zs = V at *
  clear h h0
  go_enter Tryd.func12, Tryd.ntmps12
  go_wp2_with fail
  refine HC.out.mono ?_
  rintro e w1 ⟨rfl, hb⟩
  have HB := hidC hb
  clear hb HC
  go_wp2_with fail
  go_returns
  exact ⟨rfl, HB.out⟩

/-- What Uncross leaves. -/
def UncPost (zs : List O) (P V : Int) (w : World) (e : Ending) (w' : World) : Prop :=
  ∃ qt mt ct qr mr cr ts os, e = .returned (.tuple #[.int .i64 P, .slice qt mt ct, .slice qr mr cr, .nilIface]) ∧ mt = ts.length ∧ mr = (os.filter nz).length ∧ U P V zs ts os ∧ Sh zs os ∧ Nn os ∧ mt ≤ 120 ∧
    OwnM w' w.heap.size 58 6 (.slice qt mt ct) mt (flatT ts) ∧ OwnM w' w.heap.size 44 8 (.slice qr mr cr) mr (flat (os.filter nz)) ∧ (∀ k, (Value.slice qt mt ct).ownBlock = some k → (Value.slice qr mr cr).ownBlock ≠ some k) ∧ Below w.heap.size w w'

theorem idxs_some {zs : List O} {side p : Int} (hn : Nn zs) (h : 0 < ws side p zs) : idxs side zs zs.length ≠ [] := by
  obtain ⟨j, h1, h2, -, -⟩ := ws_pos side p zs hn h
  have := (idxs_mem side zs zs.length j).2 ⟨h1, h2⟩
  intro e
  rw [e] at this
  simp at this

set_option maxHeartbeats 2000000 in
set_option maxRecDepth 100000 in
theorem uncross_fine (v : Value) (zs : List O) (w : World) (h : SL w v zs) (h0 : pE zs = 0) : Calls Tryd.prog 12 #[v] w fun e w' => UncPost zs (pP zs) (pV zs) w e w' := by
  have HC := hidC (price_call v zs w h)
  rw [h0, errV_zero] at HC
  obtain ⟨hg, -, -, hV, hV0, hV6, -, o1, ho1, -⟩ := price_zero h0
  generalize pP zs = P at *
  generalize pV zs = V at *
  have hpos : 0 < zs.length := List.length_pos_of_mem ho1
  obtain ⟨qv, cv, rfl⟩ := sl_form h
  obtain ⟨G0, o0, rfl, hG0, hL0⟩ := sl_some h hpos
  have hnn := nn_of hg
  have HGD := hidC hg
  have HNN := hidC hnn
  have HV : Hid (V = min (ws 1 P zs) (ws 2 P zs) ∧ 0 < V ∧ V ≤ 600000 ∧ 0 < zs.length ∧ zs.length ≤ 60) := ⟨hV, hV0, hV6, hpos, hg.few⟩
  have HL0 : Hid (∀ W, Below w.heap.size w W → G0 < W.heap.size ∧ Lies W G0 o0 zs) := fun W hW => ⟨Nat.lt_of_lt_of_le hG0 hW.size, hL0.below hG0 hW⟩
  obtain ⟨n, hn⟩ : ∃ n, n = zs.length := ⟨_, rfl⟩
  rw [← hn] at HC ⊢
  have HN := hidC hn
  clear h h0 hg hV hV0 hV6 ho1 hpos hG0 hL0 hnn hn
  go_enter Tryd.func12, Tryd.ntmps12
  go_wp2_with fail
  refine HC.out.mono ?_
  rintro e w1 ⟨rfl, hb1⟩
  have HB1 := hidC hb1
  obtain ⟨g1, g2⟩ := HL0.out w1 hb1
  have HCL := hidC (clone_some G0 o0 n cv zs w1 HN.out (by have := HN.out; have := HV.out; omega) g1 g2)
  clear hb1 HC g1 g2 HL0
  go_wp2_with fail
  refine HCL.out.mono ?_
  rintro e w2 ⟨q2, c2, rfl, ho2, hb2⟩
  obtain ⟨G, o, rfl⟩ : ∃ G o, q2 = some ⟨G, o, none⟩ := by
    rcases ho2.2 with ⟨h1, h2⟩ | ⟨g, off, cap, cur, h1, _⟩
    · have := HV.out; have := HN.out; omega
    · cases h1; exact ⟨g, off, rfl⟩
  have HB2 := hidC (HB1.out.trans (hb2.mono HB1.out.size))
  have hGl := OwnM.lt ho2 G rfl
  have hsl : Lies w2 G o zs := by
    have hq : SL w2 (.slice (some ⟨G, o, none⟩) zs.length c2) zs := wak.OwnQ.sl (base := w1.heap.size) (by show OwnM _ _ _ _ _ _ _; rw [← HN.out]; exact ho2)
    rcases hq with ⟨h1, -⟩ | ⟨b, o', c', h1, -, -, -, h5⟩
    · cases h1
    · cases h1; exact h5
  have HO2 := hidC ho2
  have HG : Hid (w.heap.size ≤ G ∧ G < w2.heap.size) := ⟨Nat.le_trans HB1.out.size hGl.1, hGl.2⟩
  have HLI := hidC hsl
  have HC1 := hidC (line_any 1 (.inl rfl) G o n c2 zs w2 HN.out (by have := HN.out; have := HV.out; omega) hGl.2 hsl (idxs_some (p := P) HNN.out (by have := HV.out; omega)))
  clear ho2 hb2 HCL hGl hsl
  go_wp2_with fail
  refine HC1.out.mono ?_
  rintro e w3 ⟨B1, f1, k1, is1, rfl, hl1, hm1, hp1, hb3⟩
  have HB3 := hidC hb3
  have HLN1 : Hid (Line 1 zs is1 ∧ is1.length ≤ zs.length) := ⟨hl1, hm1⟩
  have HP1 := hidC hp1
  have HC2 := hidC (line_any 2 (.inr rfl) G o n c2 zs w3 HN.out (by have := HN.out; have := HV.out; omega) (Nat.lt_of_lt_of_le HG.out.2 hb3.size) (HLI.out.below HG.out.2 hb3) (idxs_some (p := P) HNN.out (by have := HV.out; omega)))
  obtain ⟨m1, hm1e⟩ : ∃ m, m = is1.length := ⟨_, rfl⟩
  have HM1 := hidC hm1e
  rw [← hm1e]
  clear hl1 hm1 hp1 hb3 HC1 hm1e
  go_wp2_with fail
  refine HC2.out.mono ?_
  rintro e w4 ⟨B2, f2, k2, is2, rfl, hl2, hm2, hp2, hb4⟩
  have hTM : TM w4 w.heap.size G o n c2 zs zs (.slice (some ⟨B1, f1, none⟩) m1 k1) (.slice (some ⟨B2, f2, none⟩) is2.length k2) (.slice none 0 0) is1 is2 [] w4 := by
    have q1 := HP1.out
    rw [← HM1.out] at q1
    have q1' : OwnM w3 w2.heap.size 77 1 (.slice (some ⟨B1, f1, none⟩) m1 k1) is1.length (is1.map (encP G o zs)) := q1
    have hs2 := HB2.out.size
    have hs3 := HB3.out.size
    have lt1 := OwnM.lt q1' B1 rfl
    have lt2' := OwnM.lt hp2 B2 rfl
    have hG' := HG.out
    refine ⟨⟨rfl, rfl, rfl, Nat.le_refl _, fun _ _ _ => rfl⟩, by have := hb4.size; omega, HN.out, ?_, ?_, ?_, ?_, ?_, ⟨rfl, .inl ⟨rfl, rfl⟩⟩⟩
    · exact OwnM.mono (OwnM.below (OwnM.below HO2.out HB3.out) hb4) HB1.out.size
    · exact OwnM.mono (OwnM.below q1' hb4) hs2
    · exact OwnM.mono hp2 (by omega)
    · intro k hk
      have : k = B1 := by cases hk; rfl
      subst this
      have := hb4.size
      exact ⟨by omega, by omega⟩
    · intro k hk
      have : k = B2 := by cases hk; rfl
      subst this
      exact ⟨by omega, by omega⟩
  have HC3 := hidC (trade_any w4 w.heap.size G o n c2 zs (some ⟨B1, f1, none⟩) (some ⟨B2, f2, none⟩) m1 k1 is2.length k2 is1 is2 P V HV.out.2.2.2.2 HV.out.2.2.1 HM1.out rfl (by have := HLN1.out.2; have := HV.out; omega) (by have := HV.out; omega) hTM (TI.start HNN.out (ln_of HGD.out HLN1.out.1) (ln_of HGD.out hl2) HV.out.1))
  have HB4 := hidC (HB2.out.trans ((HB3.out.trans (hb4.mono HB3.out.size)).mono HB2.out.size))
  have HG4 : Hid (w.heap.size ≤ G ∧ G < w4.heap.size) := ⟨HG.out.1, Nat.lt_of_lt_of_le HG.out.2 (Nat.le_trans HB3.out.size hb4.size)⟩
  obtain ⟨m2, hm2e⟩ : ∃ m, m = is2.length := ⟨_, rfl⟩
  rw [← hm2e] at HC3 ⊢
  clear hTM hl2 hm2 hp2 hb4 HC2 hm2e HP1 HLN1 HM1 HLI HG HO2 HB3 HB2
  go_wp2_with fail
  refine HC3.out.mono ?_
  rintro e w5 ⟨qt, mt, ct, ts, os, vb, vs, bs, ss, rfl, hmt, hU, hSh, hNn, hmt2, hTM⟩
  have hlen : n = os.length := hTM.len
  have HC4 := hidC (delete_any w5 w.heap.size G o n c2 os hlen (by have := HN.out; have := HV.out; omega) hTM.own)
  have HT := hidC hTM
  have HU : Hid (mt = ts.length ∧ U P V zs ts os ∧ Sh zs os ∧ Nn os ∧ mt ≤ 120) := ⟨hmt, hU, hSh, hNn, hmt2⟩
  clear HC3 hmt hU hSh hNn hmt2 hTM hlen
  go_wp2_with fail
  refine HC4.out.mono ?_
  rintro e w6 ⟨mr, rfl, hmr, ho6, hg6⟩
  have HE : Hid (UncPost zs P V w (.returned (.tuple #[.int .i64 P, .slice qt mt ct, .slice (some ⟨G, o, none⟩) mr c2, .nilIface])) w6) := by
    have hu := HU.out
    have hT := HT.out
    have hG4 := HG4.out
    have htr : OwnM w5 w4.heap.size 58 6 (.slice qt mt ct) mt (flatT ts) := by
      have h : OwnM w5 w4.heap.size 58 6 (.slice qt mt ct) ts.length (flatT ts) := hT.tr
      rw [← hu.1] at h
      exact h
    have hfar : ∀ k, (Value.slice qt mt ct).ownBlock = some k → k ≠ G := fun k hk e => by have := (OwnM.lt htr k hk).1; omega
    refine ⟨qt, mt, ct, _, mr, c2, ts, os, rfl, hu.1, hmr, hu.2.1, hu.2.2.1, hu.2.2.2.1, hu.2.2.2.2, ?_, ho6, ?_, ?_⟩
    · exact OwnM.mono (OwnM.aside htr hg6 (fun k hk e => by cases e; exact hfar _ hk rfl)) HB4.out.size
    · intro k hk e
      exact hfar k hk (by cases e; rfl)
    · have h5 : Below w.heap.size w w5 := HB4.out.grown hT.gr HB4.out.size (fun k hk => by cases hk; exact hG4.1)
      exact h5.grown hg6 h5.size (fun k hk => by cases hk; exact hG4.1)
  clear HC4 hmr ho6 hg6 HT HU HB4 HG4
  go_wp2_with fail
  go_returns
  exact HE.out
end Go.Proofs.YtabcfmpmkdoieaaDoor.cal
