/- Contracts over this seat's translation: side.Fresh. -/
import Derived.Test.YtjphhieloicdeaaSidDeep
namespace Go.Proofs.Ytjphhieloicdeaa.sid
open Go.RowKit Go.Proofs.Ytjphhieloicdeaa.spn Go.Proofs.Ytjphhieloicdeaa.que

theorem rcat_one (B c : Nat) (v : Value) (zs : List rlv.RL) (w : World) (hc : w.cell? ⟨B, 0, none⟩ = some v) (hs : rlv.SL w v zs) (hl : zs.length ≤ 1000) :
    Calls Try.prog 40 #[.slice (some ⟨B, 0, none⟩) 1 c] w fun e w' => ∃ v', e = .returned v' ∧ rlv.OwnQ w' w.heap.size v' zs ∧ Below w.heap.size w w' := by
  have h := rlv.concat_any B c 1 (fun _ => v) (fun _ => zs) w (by omega) (fun j hj => by rw [show j = 0 by omega]; exact hc) (fun _ _ => hs) (by simpa [rlv.upto] using hl)
  simpa [rlv.upto] using h
theorem qcat_one (B c : Nat) (v : Value) (zs : List R) (w : World) (hc : w.cell? ⟨B, 0, none⟩ = some v) (hs : SL w v zs) (hl : zs.length ≤ 1000) :
    Calls Try.prog 61 #[.slice (some ⟨B, 0, none⟩) 1 c] w fun e w' => ∃ v', e = .returned v' ∧ OwnQ w' w.heap.size v' zs ∧ Below w.heap.size w w' := by
  have h := concat_any B c 1 (fun _ => v) (fun _ => zs) w (by omega) (fun j hj => by rw [show j = 0 by omega]; exact hc) (fun _ _ => hs) (by simpa [upto] using hl)
  simpa [upto] using h

/-- What Fresh answers. -/
def FreshPost (w : World) (ls : List L) (e : Ending) (w' : World) : Prop := ∃ v' ps, e = .returned v' ∧ ps.map toL = ls ∧ Deep w' w.heap.size v' ps ∧ Below w.heap.size w w'
theorem deep_nil (w : World) (base : Nat) : Deep w base (.slice none 0 0) [] := ⟨⟨rfl, .inl ⟨rfl, rfl⟩⟩, fun p hp => (by cases hp), List.Pairwise.nil, fun p hp => (by cases hp)⟩
theorem ls_form {w : World} {v : Value} {ls : List L} (h : LS w v ls) : ∃ q m c, v = .slice q m c := by
  rcases h with ⟨rfl, rfl⟩ | ⟨b, o, c, h1, _⟩
  · exact ⟨none, 0, 0, rfl⟩
  · exact ⟨_, _, c, h1⟩

set_option maxRecDepth 100000 in
set_option maxHeartbeats 1000000 in
theorem fresh_any (v : Value) (ls : List L) (w : World) (h : LS w v ls) (hn : ls.length ≤ 1000) (hr : ∀ l ∈ ls, l.rests.length ≤ 1000) (hne : ∀ l ∈ ls, l.rests ≠ []) :
    Calls Try.prog 45 #[v] w fun e w' => FreshPost w ls e w' := by
  obtain ⟨vq, vm, vc, rfl⟩ := ls_form h
  obtain ⟨ps0, e0, hL⟩ := ls_loose h
  have hlen : ps0.length = ls.length := by rw [← e0, List.length_map]
  have HR : Hid (∀ p ∈ ps0, p.2.length ≤ 1000) := fun p hp => hr (toL p) (by rw [← e0]; exact List.mem_map.2 ⟨p, hp, rfl⟩)
  obtain ⟨raw, hraw⟩ : ∃ raw, raw = ps0.map (·.1) := ⟨_, rfl⟩
  have hB0 : Below w.heap.size w (w.alloc (.cells #[.slice vq vm vc] 22)) := (Below.refl _ _).alloc (Nat.le_refl _) _
  have hcat := rcat_one w.heap.size 1 (.slice vq vm vc) raw (w.alloc (.cells #[.slice vq vm vc] 22)) (by simp [go_sem]) (by rw [hraw]; exact hL.1.below hB0) (by rw [hraw]; simp; omega)
  have HE : Hid (∀ W, Below w.heap.size w W → ∀ p ∈ ps0, SL W (sv p.1) p.2) := fun W hW p hp => ((hL.2 p hp).below hW).sl (hne (toL p) (by rw [← e0]; exact List.mem_map.2 ⟨p, hp, rfl⟩))
  have HPOST : Hid (∀ W v' ps, Below w.heap.size w W → ps.map toL = ps0.map toL → Deep W w.heap.size v' ps → FreshPost w ls (.returned v') W) := fun W v' ps hW e hD => ⟨v', ps, rfl, e.trans e0, hD, hW⟩
  generalize FreshPost w ls = POST at *
  have HRAW : Hid (raw = ps0.map (·.1)) := hraw
  have hsz0 : w.heap.size ≤ (w.alloc (.cells #[.slice vq vm vc] 22)).heap.size := hB0.size
  clear h hn hr hne e0 hL hlen hraw
  go_enter Try.func45, Try.ntmps45
  go_wp2_with fail
  refine hcat.mono ?_
  rintro e w1 ⟨v1, rfl, ho1, hb1⟩
  have HB1 : Hid (Below w.heap.size w w1) := hB0.trans (hb1.mono hsz0)
  have HO1 : Hid (rlv.OwnQ w1 w.heap.size v1 raw) := OwnM.mono ho1 hsz0
  have hw1 : w.heap.size ≤ w1.heap.size := HB1.out.size
  clear hcat ho1 hb1 hB0 hsz0
  rcases HO1.out.2 with ⟨rfl, hz⟩ | ⟨g, off, cap, cur, rfl, hbg, -, hcap, hcm, -, -⟩
  · have hp0 : ps0 = [] := by
      have h1 := HRAW.out
      have h2 : raw = [] := List.length_eq_zero_iff.1 hz
      rw [h2] at h1
      simpa using h1.symm
    have HX := HPOST.out w1 (.slice none 0 0) [] HB1.out (by rw [hp0]) (deep_nil _ _)
    clear HPOST HO1 HRAW HE HR hp0 hz
    go_wp2_with fail
    go_loopg [4, 10] 0 (fun _ _ s10 wr => s10 = .int .i64 0 ∧ wr = w1)
    case atStart => exact ⟨rfl, rfl⟩
    case round =>
      obtain ⟨rfl, rfl⟩ := hrel
      go_wp2_with fail
      exact HX
  · generalize hm : raw.length = n at *
    have HN : Hid (ps0.length = n) := by show _ = _; rw [← hm, HRAW.out, List.length_map]
    have hcap2 : cap ≤ 9223372036854775807 := by simpa [maxLen] using hcm
    clear hcm hbg
    have HD1 : Hid (DeepT w1 w.heap.size (.slice (some ⟨g, off, none⟩) n cap) [] raw) := ⟨by rw [List.map_nil, List.nil_append]; exact HO1.out, fun p hp => (by cases hp), List.Pairwise.nil, fun p hp => (by cases hp)⟩
    clear HO1 hm
    go_wp2_with fail
    go_loopg [4, 10] n (fun gg _ s10 wr => ∃ kk : Nat, kk ≤ n ∧ n - kk ≤ gg ∧ s10 = .int .i64 kk ∧ Aside (∃ ps : List RP, ps.length = kk ∧ ps.map toL = (ps0.take kk).map toL ∧ DeepT wr w.heap.size (.slice (some ⟨g, off, none⟩) n cap) ps (raw.drop kk)) ∧ Aside (Below w.heap.size w wr))
    case atStart => exact ⟨0, Nat.zero_le _, by omega, rfl, ⟨[], rfl, rfl, HD1.out⟩, HB1.out⟩
    case round =>
      obtain ⟨kk, hkk, hg, rfl, AD, BW⟩ := hrel
      by_cases hlt : kk < n
      · have hltz : (kk : Int) < (n : Int) := by omega
        have hin1 : ¬ ((kk : Int) < 0) := by omega
        obtain ⟨ps, hk, hps, hD⟩ := AD.out
        have hlz : kk < ps0.length := by rw [HN.out]; exact hlt
        obtain ⟨p, hp⟩ : ∃ p, p = ps0[kk] := ⟨_, rfl⟩
        have hpm : p ∈ ps0 := by rw [hp]; exact List.getElem_mem hlz
        have hdr : raw.drop kk = p.1 :: raw.drop (kk + 1) := by
          rw [HRAW.out, List.drop_eq_getElem_cons (by simpa using hlz), List.getElem_map, ← hp]
        rw [hdr] at hD
        obtain ⟨⟨pp, pq, pn, pc⟩, zs⟩ := p
        obtain ⟨-, -, c1, hfr, hgb, hgs⟩ := ownr_at hD.own
        rw [List.length_map, hk] at c1
        simp only [] at c1
        have f1 : wr.frozen? ⟨g, off + kk * 2 + 1, none⟩ = false := hfr _
        have hBV : Below wr.heap.size wr (wr.alloc (.cells #[.slice pq pn pc] 27)) := (Below.refl _ _).alloc (Nat.le_refl _) _
        have hcat := qcat_one wr.heap.size 1 (.slice pq pn pc) zs (wr.alloc (.cells #[.slice pq pn pc] 27)) (by simp [go_sem]) (HE.out _ (BW.out.trans (hBV.mono BW.out.size)) _ hpm) (HR.out _ hpm)
        have HDD : Hid (DeepT wr w.heap.size (.slice (some ⟨g, off, none⟩) n cap) ps (⟨pp, pq, pn, pc⟩ :: raw.drop (kk + 1))) := hD
        have HPS : Hid (ps.length = kk ∧ ps.map toL ++ [toL (⟨pp, pq, pn, pc⟩, zs)] = (ps0.take (kk + 1)).map toL) := by
          refine ⟨hk, ?_⟩
          rw [List.take_succ_eq_append_getElem hlz, List.map_append, ← hps, ← hp]; rfl
        have HSZ : Hid (wr.heap.size ≤ (wr.alloc (.cells #[.slice pq pn pc] 27)).heap.size) := hBV.size
        have HBV : Hid (Below wr.heap.size wr (wr.alloc (.cells #[.slice pq pn pc] 27))) := hBV
        clear hfr hD hk hps hp hpm hdr AD hBV
        go_wp2_with fail
        refine hcat.mono ?_
        rintro e w2 ⟨v2, rfl, ho2, hb2⟩
        obtain ⟨q2, cc2, rfl⟩ := OwnM.form ho2
        have HW2 : Hid (Below wr.heap.size wr w2) := HBV.out.trans (hb2.mono HSZ.out)
        have HO2 : Hid (OwnQ w2 wr.heap.size (.slice q2 zs.length cc2) zs) := OwnM.mono ho2 HSZ.out
        have d1 : w2.cell? ⟨g, off + kk * 2 + 1, none⟩ = some (.slice pq pn pc) := keeps HW2.out c1
        have f2 : w2.frozen? ⟨g, off + kk * 2 + 1, none⟩ = false := (HW2.out.frozen (p := ⟨g, off + kk * 2 + 1, none⟩) hgs).trans f1
        have hgs2 : g < w2.heap.size := Nat.lt_of_lt_of_le hgs HW2.out.size
        have HN2 : Hid (DeepT (w2.setCell ⟨g, off + kk * 2 + 1, none⟩ (.slice q2 zs.length cc2)) w.heap.size (.slice (some ⟨g, off, none⟩) n cap) (ps ++ [(⟨pp, q2, zs.length, cc2⟩, zs)]) (raw.drop (kk + 1))) := by
          have := DeepT.next HDD.out HW2.out HO2.out BW.out.size
          rw [HPS.out.1, ← Nat.add_assoc] at this
          exact this
        have HBW : Hid (Below w.heap.size w (w2.setCell ⟨g, off + kk * 2 + 1, none⟩ (.slice q2 zs.length cc2))) := (BW.out.trans (HW2.out.mono BW.out.size)).setCell hgb _
        clear hcat ho2 hb2 HO2 HW2 c1 f1
        go_wp2_with fail
        go_roundg (n - (kk + 1))
        case measure => omega
        case rel => exact ⟨kk + 1, by omega, by omega, by go_num, ⟨ps ++ [(⟨pp, q2, zs.length, cc2⟩, zs)], by rw [List.length_append, HPS.out.1]; rfl, by rw [List.map_append]; exact HPS.out.2, HN2.out⟩, HBW.out⟩
      · have hltz : ¬ (kk : Int) < (n : Int) := by omega
        have hkn : kk = n := by omega
        subst hkn
        obtain ⟨ps, hk, hps, hD⟩ := AD.out
        rw [List.drop_eq_nil_of_le (by rw [HRAW.out, List.length_map, HN.out]; exact Nat.le_refl _)] at hD
        rw [List.take_of_length_le (by rw [HN.out]; exact Nat.le_refl _)] at hps
        have HX := HPOST.out wr _ ps BW.out hps hD
        clear HPOST hD hps hk AD
        go_wp2_with fail
        exact HX
end Go.Proofs.Ytjphhieloicdeaa.sid
