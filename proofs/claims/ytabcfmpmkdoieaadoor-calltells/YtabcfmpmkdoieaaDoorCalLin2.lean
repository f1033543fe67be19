/- Contracts over this seat's translation: call.line, whole. -/
import Derived.Test.YtabcfmpmkdoieaaDoorCalLine
namespace Go.Proofs.YtabcfmpmkdoieaaDoor.cal
open Go.RowKit Go.Lib Go.Sort Go.Proofs.YtabcfmpmkdoieaaDoor.ord
open Go.Proofs.YtabcfmpmkdoieaaDoor.wak (Lies SL oL OwnM OwnQ flat own_of own_range wpList_append_mid gr_below gr_trans gr_alloc)
open Go.Proofs.YtabcfmpmkdoieaaDoor.spn (keeps bcell)

/-- What holds while a line is made. -/
structure LnI (w : World) (side : Int) (G o : Nat) (zs : List O) (k : Nat) (v : Value) (wr : World) : Prop where
  own : OwnP wr (w.heap.size + 1) v G o zs (idxs side zs k)
  far : Below w.heap.size w wr
  box : wr.heap[w.heap.size]? = some (.cells #[.int .i64 side] 3 (0, 0))

theorem LnI.skip {w wr : World} {side : Int} {G o k : Nat} {zs : List O} {v : Value} (h : LnI w side G o zs k v wr) (hs : ¬ (zs[k]!).side = side) : LnI w side G o zs (k + 1) v wr :=
  ⟨by rw [idxs_succ, if_neg hs]; exact h.own, h.far, h.box⟩
theorem LnI.drawn {w wr : World} {side : Int} {G o k : Nat} {zs : List O} {v : Value} (h : LnI w side G o zs k v wr) (q : Nat) : LnI w side G o zs k v (wr.drewN q) :=
  ⟨h.own, ⟨h.far.os, h.far.tape, h.far.output, h.far.size, h.far.block⟩, h.box⟩
theorem LnI.next {w wr w' : World} {side : Int} {G o k : Nat} {zs : List O} {v v' : Value} {x : Obj} (h : LnI w side G o zs k v wr) (hs : (zs[k]!).side = side)
    (ho : OwnM w' (w.heap.size + 1) 77 1 v' ((idxs side zs k).length + 1) ((idxs side zs k).map (encP G o zs) ++ [encP G o zs k])) (hg : (wr.alloc x).grownBy w' v.ownBlock) : LnI w side G o zs (k + 1) v' w' := by
  have hlt : w.heap.size < wr.heap.size := (Array.getElem?_eq_some_iff.1 h.box).1
  have hv : ∀ j, v.ownBlock = some j → w.heap.size + 1 ≤ j := fun j hj => (OwnM.lt h.own j hj).1
  have hA : Below wr.heap.size wr (wr.alloc x) := (Below.refl _ _).alloc (Nat.le_refl _) _
  refine ⟨?_, ⟨hg.os.trans (hA.os.trans h.far.os), hg.tape.trans (hA.tape.trans h.far.tape), hg.output.trans (hA.output.trans h.far.output), Nat.le_trans h.far.size (Nat.le_trans hA.size hg.size), fun j hj => ?_⟩, ?_⟩
  · rw [idxs_succ, if_pos hs]
    show OwnM _ _ _ _ _ _ _
    rw [List.length_append, List.map_append]
    exact ho
  · rw [hg.block j (by have := hA.size; omega) (fun e => by have := hv j e.symm; omega), hA.block j (by omega), h.far.block j hj]
  · rw [hg.block _ (by have := hA.size; omega) (fun e => by have := hv _ e.symm; omega), hA.block _ hlt]
    exact h.box

set_option maxHeartbeats 2000000 in
set_option maxRecDepth 100000 in
theorem line_any (side : Int) (hs : side = 1 ∨ side = 2) (G o n c : Nat) (zs : List O) (w : World) (hn : n = zs.length) (h60 : n ≤ 60) (hG : G < w.heap.size) (hL : Lies w G o zs) (hne : idxs side zs zs.length ≠ []) :
    Calls Tryd.prog 27 #[.slice (some ⟨G, o, none⟩) n c, .int .i64 side] w fun e w' => LinePost side G o zs w e w' := by
  have HL := hidC hL
  have HN := hidC hn
  have H60 := hidC h60
  have HNE := hidC hne
  have HSD := hidC hs
  have HGG := hidC hG
  have H0 : Hid (LnI w side G o zs 0 (.slice none 0 0) (w.alloc (.cells #[.int .i64 side] 3))) := ⟨⟨rfl, .inl ⟨rfl, rfl⟩⟩, (Below.refl _ _).alloc (Nat.le_refl _) _, heap_alloc_new w _⟩
  obtain ⟨i0, hi0, hz0, hz1, hz2⟩ := infoP'
  have HI := hidC hi0
  obtain ⟨bx, hbx⟩ : ∃ b, b = w.heap.size := ⟨_, rfl⟩
  have HBX := hidC hbx
  clear hL hn h60 hne hs hG hi0
  go_enter Tryd.func27, Tryd.ntmps27
  go_wp2_with fail
  simp only [← hbx]
  generalize w.alloc (.cells #[.int .i64 side] 3) = W1 at H0 ⊢
  clear hbx
  go_loopg [5, 6, 9] n (fun gg s5 _ s9 wr => ∃ kk m cc : Nat, kk ≤ n ∧ n - kk ≤ gg ∧ s9 = .int .i64 kk ∧ ∃ qa, s5 = .slice qa m cc ∧ Aside (m = (idxs side zs kk).length ∧ LnI w side G o zs kk (.slice qa m cc) wr))
  case atStart => exact ⟨0, 0, 0, Nat.zero_le _, by omega, rfl, none, rfl, rfl, H0.out⟩
  case round =>
    clear H0
    obtain ⟨kk, m, cc, hkk, hg, rfl, qa, rfl, HA⟩ := hrel
    by_cases hlt : kk < n
    · have hltz : (kk : Int) < (n : Int) := by omega
      have hB := HA.out.2.far
      have hsd : wr.cell? ⟨G, o + kk * 8 + 2, none⟩ = some (.int .i64 (zs[kk]!).side) := by
        rw [hB.cell (p := ⟨G, o + kk * 8 + 2, none⟩) HGG.out]
        exact HL.out kk (by have := HN.out; omega) 2 _ rfl
      have hbox : wr.cell? ⟨bx, 0, none⟩ = some (.int .i64 side) := by
        have := HA.out.2.box
        rw [HBX.out]
        simp [World.cell?, this]
      have ei : wrap64 ((kk : Int) + 1) = ((kk + 1 : Nat) : Int) := succW kk (by have := H60.out; omega)
      have HEN : Hid (encP G o zs kk = .pointer (some ⟨G, o + kk * 8, none⟩)) := by
        show _ = _
        unfold encP
        rw [Nat.mod_eq_of_lt (by have := HN.out; clear ei; omega)]
      have HKK : Hid (kk < n ∧ n - kk ≤ gk ∧ m ≤ 60) := ⟨hlt, hg, by have := HA.out.1; have := idxs_len side zs kk; have := H60.out; clear ei; omega⟩
      clear hB hkk hg
      by_cases hsm : (zs[kk]!).side = side
      · have HSM := hidC hsm
        rw [hsm] at hsd
        have hbe : (side == side) = true := by simp
        go_wp2_with fail
        go_quiet (fail)
        have HA2 : Hid (m = (idxs side zs kk).length ∧ LnI w side G o zs kk (.slice qa m cc) (wr.drewN nq)) := ⟨HA.out.1, HA.out.2.drawn nq⟩
        clear hsd hbox HA
        generalize wr.drewN nq = w2 at HA2 ⊢
        clear nq
        have HO3 : Hid (OwnM (w2.alloc (.cells #[.pointer (some ⟨G, o + kk * 8, none⟩)] 77)) (w.heap.size + 1) 77 1 (.slice qa m cc) m ((idxs side zs kk).map (encP G o zs))) := by
          have h := OwnM.below HA2.out.2.own ((Below.refl _ w2).alloc (Nat.le_refl _) (.cells #[.pointer (some ⟨G, o + kk * 8, none⟩)] 77))
          rw [← HA2.out.1] at h
          exact h
        have HNW : Hid (∀ j u, ([.pointer (some ⟨G, o + kk * 8, none⟩)] : List Value)[j]? = some u → (w2.alloc (.cells #[.pointer (some ⟨G, o + kk * 8, none⟩)] 77)).cell? ((⟨w2.heap.size, 0, none⟩ : Addr).add j) = some u) := by
          intro j u hu
          rw [Addr.add_lit, Nat.zero_add, World.cell?_alloc_at _ _ _ _ rfl]
          simpa using hu
        have HVS : Hid (w.heap.size + 1 ≤ (w2.alloc (.cells #[.pointer (some ⟨G, o + kk * 8, none⟩)] 77)).heap.size) := by
          show _ ≤ _
          have := HA2.out.2.far.size
          simp
          omega
        go_wp2_with (at_builtin; (refine wpList_append_mid _ rfl _ _ 61 rfl (w.heap.size + 1) 77 i0 zeroP 1 8 Tryd.underlying61 HI.out hz0 hz1 hz2 rfl (.slice qa m cc) _ _ rfl HO3.out ⟨w2.heap.size, 0, none⟩ 1 1 [.pointer (some ⟨G, o + kk * 8, none⟩)] rfl rfl HNW.out (fun u hu => by simp only [List.mem_cons, List.not_mem_nil, or_false] at hu; rw [hu]; rfl) ?c3 ?c4 ?c5 ?_))
        case c3 => have := HKK.out; clear ei; unfold maxLen; omega
        case c4 => have := HKK.out; clear ei; omega
        case c5 => exact HVS.out
        intro v' w' hO' hgr hat
        obtain ⟨qa', cc', hv'⟩ := OwnM.form hO'
        subst hv'
        have HNX : Hid (m + 1 = (idxs side zs (kk + 1)).length ∧ LnI w side G o zs (kk + 1) (.slice qa' (m + 1) cc') w') := by
          refine ⟨by rw [idxs_succ, if_pos HSM.out, List.length_append, ← HA2.out.1]; rfl, ?_⟩
          refine HA2.out.2.next HSM.out ?_ hgr
          rw [← HA2.out.1, HEN.out]
          exact hO'
        clear hO' hgr hat HO3 HNW HVS HA2
        go_wp2_with fail
        go_roundg (n - (kk + 1))
        case measure => have := HKK.out; clear ei; omega
        case rel => exact ⟨kk + 1, m + 1, cc', HKK.out.1, Nat.le_refl _, by first | rfl | exact congrArg (Value.int .i64) ei, qa', rfl, HNX.out⟩
      · have HSM := hidC hsm
        have hbe : ((zs[kk]!).side == side) = false := by simpa using hsm
        generalize (zs[kk]!).side = sd at hsd hbe hsm
        go_wp2_with fail
        go_quiet (fail)
        have HA2 : Hid (m = (idxs side zs (kk + 1)).length ∧ LnI w side G o zs (kk + 1) (.slice qa m cc) (wr.drewN nq)) := ⟨by rw [idxs_succ, if_neg HSM.out]; exact HA.out.1, (HA.out.2.drawn nq).skip HSM.out⟩
        clear hsd hbox HA
        generalize wr.drewN nq = w2 at HA2 ⊢
        clear nq
        go_wp2_with fail
        go_roundg (n - (kk + 1))
        case measure => have := HKK.out; clear ei; omega
        case rel => exact ⟨kk + 1, m, cc, HKK.out.1, Nat.le_refl _, by first | rfl | exact congrArg (Value.int .i64) ei, qa, rfl, HA2.out⟩
    · have hkn : kk = n := by omega
      subst hkn
      have hltz : ¬ (kk : Int) < (kk : Int) := by omega
      obtain ⟨hm, hI⟩ := HA.out
      have hz := HN.out
      have hown := hI.own
      rw [hz] at hown hm
      have hpos : 0 < (idxs side zs zs.length).length := List.length_pos_iff.2 HNE.out
      obtain ⟨B, off, rfl⟩ : ∃ B off, qa = some ⟨B, off, none⟩ := by
        rcases hown.2 with ⟨h1, h2⟩ | ⟨g, off, cap, cur, h1, _⟩
        · omega
        · cases h1; exact ⟨g, off, rfl⟩
      have hown2 : OwnP wr (w.heap.size + 1) (.slice (some ⟨B, off, none⟩) (idxs side zs zs.length).length cc) G o zs (idxs side zs zs.length) := by rw [hm] at hown; exact hown
      have hB := (OwnM.lt hown2 B rfl)
      have hR : Row1 (encP G o zs) wr B off (idxs side zs zs.length).toArray := ⟨one_enc G o zs, holds_own hown2, hB.2⟩
      have hfar := hI.far
      have hcon := sortStable_any (cap := cc) (g := 40) (cb := #[.pointer (some ⟨w.heap.size, 0, none⟩)]) (enters_of Tryd.func40 (by kernel_rfl) rfl) hR (by simp)
        (cmp_lays side HSD.out G o w.heap.size B off (idxs side zs zs.length).length zs wr (by have := idxs_len side zs zs.length; omega) (Nat.lt_of_lt_of_le HGG.out hfar.size) (Array.getElem?_eq_some_iff.1 hI.box).1 (by have := HGG.out; omega) (by omega) (fun j hj i v hv => (hfar.cell (p := ⟨G, o + j * 8 + i, none⟩) HGG.out).trans (HL.out j hj i v hv)) (by simp [World.cell?, hI.box]))
        (cfP_lt side zs) (by have := idxs_len side zs zs.length; have := H60.out; omega) (fun j => (idxs side zs zs.length)[j]!) _ wr (fn_idxs _) (SW.start (holds_own hown2)) (tg_idxs side zs _)
      have HC : Hid (Calls Tryd.prog 39 #[.slice (some ⟨B, off, none⟩) m cc, .func (.func 40) #[] #[.pointer (some ⟨bx, 0, none⟩)]] wr fun e w' => e = .returned (.tuple #[]) ∧ LinePost side G o zs w (.returned (.slice (some ⟨B, off, none⟩) m cc)) w') := by
        show Calls _ _ _ _ _
        rw [HBX.out, hm]
        refine hcon.mono ?_
        rintro e w' ⟨rfl, d', F', x1, x2, x3, x4⟩
        refine ⟨rfl, B, off, cc, d'.toList, ?_, line_of x1 rfl x3 x4, ?_, ?_, ?_⟩
        · have : d'.toList.length = (idxs side zs zs.length).length := by simpa using x1.1
          rw [this]
        · have : d'.toList.length = (idxs side zs zs.length).length := by simpa using x1.1
          have := idxs_len side zs zs.length
          omega
        · have h := (own_sorted hown2 x2 x1.1).1
          have : d'.toList.length = (idxs side zs zs.length).length := by simpa using x1.1
          rw [← this] at h
          exact OwnM.mono h (by omega)
        · have h := (own_sorted hown2 x2 x1.1).2
          exact ⟨h.os.trans hfar.os, h.tape.trans hfar.tape, h.output.trans hfar.output, Nat.le_trans hfar.size h.size, fun k hk => (h.block k (Nat.lt_of_lt_of_le hk hfar.size) (fun e => by cases e; omega)).trans (hfar.block k hk)⟩
      clear hcon hR hB hown hown2 hpos hI hm hz hfar HA hkk hg hlt
      go_wp2_with fail
      refine HC.out.mono ?_
      rintro e w1 ⟨rfl, hp⟩
      have HP := hidC hp
      clear hp HC
      go_wp2_with fail
      go_ret
      exact HP.out
end Go.Proofs.YtabcfmpmkdoieaaDoor.cal
