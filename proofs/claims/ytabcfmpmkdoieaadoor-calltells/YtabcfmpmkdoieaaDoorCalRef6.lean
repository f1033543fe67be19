/- Contracts over this seat's translation: the document's Uncross. -/
import Derived.Test.YtabcfmpmkdoieaaDoorCalRef5
import Derived.Test.YtabcfmpmkdoieaaDoorCalUex
import Derived.Test.YtabcfmpmkdoieaaDoorCalDel
import Derived.Test.YtabcfmpmkdoieaaDoorCalTrd
namespace Go.Proofs.YtabcfmpmkdoieaaDoor.cal
open Go.RowKit Go.Proofs.YtabcfmpmkdoieaaDoor.ord
open Go.Proofs.YtabcfmpmkdoieaaDoor.wak (Lies SL oL OwnM OwnQ flat flat_len flat_get flat_one flat_append flat_cons lies_flat getE own_of own_range gr_below gr_trans gr_alloc gr_setCell gr_drew wpList_append_mid step_append_mid run_append_mid infoR' zeroR)

/-- What lies in memory while the document trades a call. -/
structure RM (w : World) (G o n c : Nat) (os : List O) (vt : Value) (ts : List T) (wr : World) : Prop where
  bel : Below w.heap.size w wr
  len : n = os.length
  own : OwnM wr w.heap.size 44 8 (.slice (some ⟨G, o, none⟩) n c) n (flat os)
  tr : OwnT wr w.heap.size vt ts
  ap : ∀ k, vt.ownBlock = some k → k ≠ G
section
variable {w wr w' : World} {G o n c : Nat} {os : List O} {vt : Value} {ts : List T}
theorem RM.on (h : RM w G o n c os vt ts wr) (hb : Below wr.heap.size wr w') : RM w G o n c os vt ts w' :=
  ⟨h.bel.trans (hb.mono h.bel.size), h.len, OwnM.below h.own hb, OwnM.below h.tr hb, h.ap⟩
theorem RM.drawn (h : RM w G o n c os vt ts wr) (q : Nat) : RM w G o n c os vt ts (wr.drewN q) :=
  ⟨⟨h.bel.os, h.bel.tape, h.bel.output, h.bel.size, h.bel.block⟩, h.len, h.own, h.tr, h.ap⟩
theorem RM.at (h : RM w G o n c os vt ts wr) : w.heap.size ≤ G ∧ G < wr.heap.size := OwnM.lt h.own G rfl
theorem RM.sl (h : RM w G o n c os vt ts wr) : SL wr (.slice (some ⟨G, o, none⟩) n c) os := by
  have hq : SL wr (.slice (some ⟨G, o, none⟩) os.length c) os := wak.OwnQ.sl (base := w.heap.size) (by show OwnM _ _ _ _ _ _ _; rw [← h.len]; exact h.own)
  rw [h.len]
  exact hq
theorem RM.cells (h : RM w G o n c os vt ts wr) (i : Nat) (hi : i < os.length) : (∀ j v, (oL os[i]!)[j]? = some v → wr.cell? ⟨G, o + i * 8 + j, none⟩ = some v) ∧ wr.frozen? ⟨G, o + i * 8 + 5, none⟩ = false := by
  obtain ⟨h1, h2, -, h4, h5, h6, h7⟩ := own_range h.own
  refine ⟨fun j v hv => ?_, ?_⟩
  · have hj : j < 8 := (List.getElem?_eq_some_iff.1 hv).1
    have := h6 (i * 8 + j) v (by rw [flat_get os i hi j hj]; exact hv)
    rwa [← Nat.add_assoc] at this
  · have hl := h.len
    have := (h7 (i * 8 + 5) (by omega)).2
    rwa [← Nat.add_assoc] at this
theorem RM.take (h : RM w G o n c os vt ts wr) (i : Nat) (q : Int) (hi : i < os.length) : RM w G o n c (dq os i q) vt ts (wr.setCell ⟨G, o + i * 8 + 5, none⟩ (.int .i64 ((os[i]!).qty - q))) := by
  have hg := gr_setCell wr G (o + i * 8 + 5) (.int .i64 ((os[i]!).qty - q))
  refine ⟨h.bel.grown hg h.bel.size (fun k hk => by cases hk; exact h.at.1), by rw [dq_len]; exact h.len, ?_, ?_, h.ap⟩
  · have := OwnM.set h.own (i * 8 + 5) (.int .i64 ((os[i]!).qty - q))
    rw [← flat_dq os i q hi, ← Nat.add_assoc] at this
    exact this
  · exact OwnM.aside h.tr hg (fun k hk e => by cases e; exact h.ap _ hk rfl)
theorem RM.trade {vt' : Value} {t : T} {x : Obj} (h : RM w G o n c os vt ts wr) (hg : (wr.alloc x).drew.grownBy w' vt.ownBlock) (ho : OwnM w' w.heap.size 58 6 vt' (ts.length + 1) (flatT ts ++ tL t)) (hat : vt'.ownBlock = vt.ownBlock ∨ vt'.ownBlock = some (wr.alloc x).drew.heap.size) : RM w G o n c os vt' (ts ++ [t]) w' := by
  have hA : wr.grownBy (wr.alloc x).drew vt.ownBlock := gr_trans (gr_alloc wr x _) (gr_drew _ _)
  have hAll := gr_trans hA hg
  have hG := h.at
  refine ⟨h.bel.grown hAll h.bel.size (fun k hk => (OwnM.lt h.tr k hk).1), h.len, ?_, ?_, ?_⟩
  · exact OwnM.aside h.own hAll (fun k hk e => by have h1 := h.ap k e; have h2 : k = G := (by cases hk; rfl); exact h1 h2)
  · show OwnM _ _ _ _ _ _ _
    rw [flatT_append, List.length_append]
    have e : flatT [t] = tL t := by unfold flatT; simp
    rw [e]
    exact ho
  · intro k hk
    rcases hat with e | e
    · exact h.ap k (by rw [← e]; exact hk)
    · rw [hk] at e
      have hs := hA.size
      injection e with e
      omega
end

/-- What the document's Uncross leaves. -/
def RUPost (P V : Int) (zs : List O) (w : World) (e : Ending) (w' : World) : Prop :=
  ∃ qt mt ct qr mr cr ts os, e = .returned (.tuple #[.slice qt mt ct, .slice qr mr cr]) ∧ mt = ts.length ∧ mr = (os.filter nz).length ∧ U P V zs ts os ∧ mt ≤ 120 ∧
    OwnM w' w.heap.size 58 6 (.slice qt mt ct) mt (flatT ts) ∧ OwnM w' w.heap.size 44 8 (.slice qr mr cr) mr (flat (os.filter nz)) ∧ Below w.heap.size w w'

theorem okk_of {zs os : List O} (hg : Good zs) (hs : Sh zs os) (hn : Nn os) : Okk os := by
  intro j hj
  obtain ⟨r, e⟩ := hs.2 j
  have hz : j < zs.length := by have := hs.1; omega
  have hf := hg.fine zs[j]! (by rw [getE zs j hz]; exact List.getElem_mem _)
  rw [e]
  exact ⟨hf.kind, hf.bounds.1, by have := (hn j).1; rw [e] at this; exact this⟩
theorem nz_is {os : List O} (hn : Nn os) (k : Nat) : nz os[k]! = decide (0 < (os[k]!).qty) := by
  unfold nz
  have := hn k
  exact decide_eq_decide.2 ⟨fun h => by omega, fun h => by omega⟩
theorem filt_take (os : List O) (k : Nat) (h : k < os.length) : (os.take (k + 1)).filter nz = (os.take k).filter nz ++ (if nz os[k]! = true then [os[k]!] else []) := by
  rw [List.take_succ_eq_append_getElem h, List.filter_append, getE os k h]
  congr 1
  by_cases e : nz os[k] = true
  · rw [if_pos e]; simp [e]
  · rw [if_neg e]; simp [e]

set_option maxHeartbeats 8000000 in
set_option maxRecDepth 100000 in
theorem runc_any (G0 o0 n c0 : Nat) (zs : List O) (P V : Int) (w : World) (hn : n = zs.length) (hL : Lies w G0 o0 zs) (hgd : Good zs) (hpos : 0 < n) (hV : V = min (ws 1 P zs) (ws 2 P zs)) (hV6 : V ≤ 600000) :
    Calls Tryd.prog 11 #[.slice (some ⟨G0, o0, none⟩) n c0, .int .i64 P, .int .i64 V] w fun e w' => RUPost P V zs w e w' := by
  obtain ⟨TS, OS, hU, hTS⟩ := u_ex hgd hV
  have HN := hidC hn
  have HGD := hidC hgd
  have HU := hidC hU
  have HB : Hid (0 < n ∧ n ≤ 60 ∧ TS.length ≤ 120 ∧ V ≤ 600000) := ⟨hpos, by have := hgd.few; omega, hTS, hV6⟩
  obtain ⟨i0, hi0, hz0, hz1, hz2⟩ := infoR'
  have HI0 := hidC hi0
  obtain ⟨j0, hj0, hy0, hy1, hy2⟩ := infoT'
  have HJ0 := hidC hj0
  have HF : Hid (∀ j u, (flat zs)[j]? = some u → w.cell? ((⟨G0, o0, none⟩ : Addr).add j) = some u) := lies_flat hL
  have HFL : Hid ((flat zs).length = n * 8) := by show _ = _; rw [flat_len, hn]
  have HF1 : Hid (∀ u ∈ flat zs, u.oneCell' = true) := flat_one zs
  have HMX : Hid (0 + n ≤ maxLen ∧ (0 + n) * 64 ≤ 140737488355328) := by have := HB.out; exact ⟨by unfold maxLen; omega, by omega⟩
  have HO0 : Hid (OwnM w w.heap.size 44 8 (.slice none 0 0) 0 []) := ⟨rfl, .inl ⟨rfl, rfl⟩⟩
  clear hn hgd hU hTS hi0 hj0 hL hpos hV hV6
  go_enter Tryd.func11, Tryd.ntmps11
  go_wp2_with (at_builtin; (refine wpList_append_mid _ rfl _ _ 22 rfl w.heap.size 44 i0 zeroR 8 64 Tryd.underlying22 HI0.out hz0 hz1 hz2 rfl (.slice none 0 0) 0 [] rfl HO0.out ⟨G0, o0, none⟩ n c0 (flat zs) rfl HFL.out HF.out HF1.out HMX.out.1 HMX.out.2 (Nat.le_refl _) ?_))
  intro v' w1 hO' hgr hat
  obtain ⟨q, c, hv⟩ := OwnM.form hO'
  subst hv
  obtain ⟨G, o, rfl⟩ : ∃ G o, q = some ⟨G, o, none⟩ := by
    rcases hO'.2 with ⟨h1, h2⟩ | ⟨g, off, cap, cur, h1, _⟩
    · have := HB.out; omega
    · cases h1; exact ⟨g, off, rfl⟩
  have H1 : Hid (RM w G o n c zs (.slice none 0 0) [] w1) := ⟨⟨hgr.os, hgr.tape, hgr.output, hgr.size, fun k hk => hgr.block k hk (by simp [Value.ownBlock])⟩, HN.out, hO', ⟨rfl, .inl ⟨rfl, rfl⟩⟩, fun k hk => by simp [Value.ownBlock] at hk⟩
  have HSTART : Hid (Sh zs zs ∧ Nn zs) := ⟨Sh.refl zs, nn_of HGD.out⟩
  clear hO' hgr hat HF HFL HF1 HMX HO0
  go_wp2_with fail
  go_loopg [2, 9, 10, 11, 12] 120 (fun gg s2 s9 _ _ _ wr => ∃ (v : Int) (qt : Option Addr) (mt ct : Nat), s2 = .int .i64 v ∧ s9 = .slice qt mt ct ∧ Aside (∃ os ts ts', mt = ts.length ∧ ts'.length ≤ gg ∧ RM w G o n c os (.slice qt mt ct) ts wr ∧ Sh zs os ∧ Nn os ∧ U P v os ts' OS ∧ TS = ts ++ ts' ∧ v ≤ 600000))
  case atStart => exact ⟨V, none, 0, 0, rfl, rfl, zs, [], TS, rfl, HB.out.2.2.1, H1.out, HSTART.out.1, HSTART.out.2, HU.out, rfl, HB.out.2.2.2⟩
  case round =>
    clear H1 HSTART
    obtain ⟨v, qt, mt, ct, rfl, rfl, HA⟩ := hrel
    obtain ⟨os, ts, ts', hmt, hgg, hM, hSh, hNn, hUr, hTS, hv6⟩ := HA.out
    clear HA
    by_cases hv : 0 < v
    · obtain ⟨b, s, q, tl, hq, hB1, hB2, hbs, hq0, hqv, rfl, hUn⟩ := u_inv hUr hv
      have hok := okk_of HGD.out hSh hNn
      have HC1 : Hid (∀ W, RM w G o n c os (.slice qt mt ct) ts W → Calls Tryd.prog 24 #[.slice (some ⟨G, o, none⟩) n c, .int .i64 1, .int .i64 P] W fun e w' => e = .returned (.int .i64 b) ∧ Below W.heap.size W w') := fun W hW => (rnext_any (some ⟨G, o, none⟩) n c os 1 P W hW.len hW.sl hok (by have := HB.out; omega) (.inl rfl)).mono (fun e w' he => by
        obtain ⟨⟨x, e1, e2⟩, e3⟩ := he
        rw [hW.len] at e2
        rw [NX.bst hB1 e2] at e1
        exact ⟨e1, e3⟩)
      have HC2 : Hid (∀ W, RM w G o n c os (.slice qt mt ct) ts W → Calls Tryd.prog 24 #[.slice (some ⟨G, o, none⟩) n c, .int .i64 2, .int .i64 P] W fun e w' => e = .returned (.int .i64 s) ∧ Below W.heap.size W w') := fun W hW => (rnext_any (some ⟨G, o, none⟩) n c os 2 P W hW.len hW.sl hok (by have := HB.out; omega) (.inr rfl)).mono (fun e w' he => by
        obtain ⟨⟨x, e1, e2⟩, e3⟩ := he
        rw [hW.len] at e2
        rw [NX.bst hB2 e2] at e1
        exact ⟨e1, e3⟩)
      have hlb : b < os.length := hB1.lt
      have hls : s < os.length := hB2.lt
      have hln := hM.len
      have hbz : (b : Int) < (n : Int) := by omega
      have hsz : (s : Int) < (n : Int) := by omega
      have HM := hidC hM
      have HX : Hid (b < os.length ∧ s < os.length ∧ b ≠ s ∧ q ≤ (os[b]!).qty ∧ q ≤ (os[s]!).qty ∧ 0 < q ∧ q ≤ v ∧ v ≤ 600000 ∧ mt = ts.length ∧ tl.length < gk ∧ mt ≤ 119) := ⟨hlb, hls, hbs, by omega, by omega, hq0, hqv, hv6, hmt, by simp only [List.length_cons] at hgg; omega, by have h1 := HB.out.2.2.1; rw [hTS, List.length_append, List.length_cons] at h1; omega⟩
      have HNX : Hid (Sh zs (dq (dq os b q) s q) ∧ Nn (dq (dq os b q) s q) ∧ U P (v - q) (dq (dq os b q) s q) tl OS ∧ TS = (ts ++ [trOf os b s P q]) ++ tl) := by
        have es : (dq os b q)[s]! = os[s]! := dq_ne os b q s (fun e => hbs e.symm)
        refine ⟨sh_dq (sh_dq hSh b q) s q, nn_dq (nn_dq hNn b q (by omega) (by omega)) s q (by omega) (by rw [es]; omega), hUn, by rw [hTS, List.append_assoc]; rfl⟩
      have HQN : Hid (∀ i : Nat, 0 ≤ (os[i]!).qty ∧ (os[i]!).qty ≤ 10000) := hNn
      obtain ⟨A1, hA1⟩ : ∃ x, x = o + b * 8 := ⟨_, rfl⟩
      obtain ⟨A2, hA2⟩ : ∃ x, x = o + s * 8 := ⟨_, rfl⟩
      have HCL : Hid (∀ vt ts W, RM w G o n c os vt ts W → W.cell? ⟨G, A1, none⟩ = some (.int .i64 (os[b]!).id) ∧ W.cell? ⟨G, A1 + 1, none⟩ = some (.int .i64 (os[b]!).who) ∧ W.cell? ⟨G, A1 + 5, none⟩ = some (.int .i64 (os[b]!).qty) ∧ W.cell? ⟨G, A2, none⟩ = some (.int .i64 (os[s]!).id) ∧ W.cell? ⟨G, A2 + 1, none⟩ = some (.int .i64 (os[s]!).who) ∧ W.cell? ⟨G, A2 + 5, none⟩ = some (.int .i64 (os[s]!).qty)) := fun vt ts W hW => by
        obtain ⟨g1, -⟩ := hW.cells b hlb
        obtain ⟨g2, -⟩ := hW.cells s hls
        rw [hA1, hA2]
        exact ⟨g1 0 _ rfl, g1 1 _ rfl, g1 5 _ rfl, g2 0 _ rfl, g2 1 _ rfl, g2 5 _ rfl⟩
      have HTR : Hid (trOf os b s P q = ⟨(os[s]!).id, (os[b]!).id, (os[s]!).who, (os[b]!).who, P, q⟩) := rfl
      have HQ2 : Hid (q = min (os[b]!).qty (os[s]!).qty) := hq
      have HA12 : Hid (A1 = o + b * 8 ∧ A2 = o + s * 8) := ⟨hA1, hA2⟩
      clear hM hSh hNn hUr hUn hTS hv6 hgg hmt hok hB1 hB2 hq hq0 hqv hbs hlb hls hln
      go_wp2_with fail
      refine (HC1.out _ HM.out).mono ?_
      rintro e w2 ⟨rfl, hb2⟩
      have HM2 := hidC (HM.out.on hb2)
      clear hb2 HM HC1
      go_wp2_with fail
      refine (HC2.out _ HM2.out).mono ?_
      rintro e w3 ⟨rfl, hb3⟩
      have HM3 := hidC (HM2.out.on hb3)
      clear hb3 HM2 HC2
      obtain ⟨x0, x1, x5, y0, y1, y5⟩ := HCL.out _ _ _ HM3.out
      simp only [hA1] at x0 x1 x5
      simp only [hA2] at y0 y1 y5
      have HN5 := hidC (HQN.out b)
      have HN6 := hidC (HQN.out s)
      have HES : Hid ((dq os b q)[s]! = os[s]!) := dq_ne os b q s (fun e => HX.out.2.2.1 e.symm)
      have HT1 : Hid (∀ vt ts W, RM w G o n c os vt ts W → W.frozen? ⟨G, o + b * 8 + 5, none⟩ = false ∧ RM w G o n c (dq os b q) vt ts (W.setCell ⟨G, o + b * 8 + 5, none⟩ (.int .i64 ((os[b]!).qty - q)))) := fun vt ts W hW => ⟨(hW.cells b HX.out.1).2, hW.take b q HX.out.1⟩
      have HT2 : Hid (∀ vt ts W, RM w G o n c (dq os b q) vt ts W → W.cell? ⟨G, o + s * 8 + 5, none⟩ = some (.int .i64 (os[s]!).qty) ∧ W.frozen? ⟨G, o + s * 8 + 5, none⟩ = false ∧ RM w G o n c (dq (dq os b q) s q) vt ts (W.setCell ⟨G, o + s * 8 + 5, none⟩ (.int .i64 ((os[s]!).qty - q)))) := fun vt ts W hW => by
        have hl : s < (dq os b q).length := by rw [dq_len]; exact HX.out.2.1
        have h1 := hW.cells s hl
        have h2 := hW.take s q hl
        rw [HES.out] at h1 h2
        exact ⟨h1.1 5 _ rfl, h1.2, h2⟩
      simp only [HA12.out.1, HA12.out.2] at HCL
      clear hA1 hA2 HA12 A1 A2
      have HXQ : Hid (q ≤ (os[b]!).qty ∧ q ≤ (os[s]!).qty) := ⟨HX.out.2.2.2.1, HX.out.2.2.2.2.1⟩
      generalize (os[b]!).id = X0 at *
      generalize (os[b]!).who = X1 at *
      generalize (os[s]!).id = Y0 at *
      generalize (os[s]!).who = Y1 at *
      generalize (os[b]!).qty = X5 at *
      generalize (os[s]!).qty = Y5 at *
      obtain ⟨mm, hmm⟩ : ∃ mm, mm = min v X5 := ⟨_, rfl⟩
      have HMM := hidC hmm
      clear hmm
      go_upto_if 33 with fail
      go_cut [12] from 27 to 38 (fun s12 wx => s12 = .int .i64 mm ∧ wx = w3)
      case first =>
        by_cases hc : X5 < v
        · have hm : X5 = mm := by have := HMM.out; omega
          have HE := hidC hm
          clear hm
          go_wp2_with fail
          go_meet
          case rel => exact ⟨congrArg (Value.int .i64) HE.out, rfl⟩
        · have hm : v = mm := by have := HMM.out; omega
          have HE := hidC hm
          clear hm
          go_wp2_with fail
          go_meet
          case rel => exact ⟨congrArg (Value.int .i64) HE.out, rfl⟩
      case rest =>
      obtain ⟨rfl, rfl⟩ := hcut
      generalize wc = w3 at *
      go_upto_if 45 with fail
      go_cut [12] from 39 to 50 (fun s12 wx => s12 = .int .i64 q ∧ wx = w3)
      case first =>
        by_cases hc : Y5 < mm
        · have hm : Y5 = q := by have h1 := HMM.out; have h2 := HQ2.out; have h3 := HX.out; omega
          have HE := hidC hm
          clear hm
          go_wp2_with fail
          go_meet
          case rel => exact ⟨congrArg (Value.int .i64) HE.out, rfl⟩
        · have hm : mm = q := by have h1 := HMM.out; have h2 := HQ2.out; have h3 := HX.out; omega
          have HE := hidC hm
          clear hm
          go_wp2_with fail
          go_meet
          case rel => exact ⟨congrArg (Value.int .i64) HE.out, rfl⟩
      case rest =>
      obtain ⟨rfl, rfl⟩ := hcut
      generalize wc = w3 at *
      clear HMM mm
      go_upto_region 12 with fail
      have hBA : Below w3.heap.size w3 (w3.alloc (.cells #[.int .i64 Y0, .int .i64 X0, .int .i64 Y1, .int .i64 X1, .int .i64 P, .int .i64 q] 58)).drew := ((Below.refl _ _).alloc (Nat.le_refl _) _).drew
      have HR : Hid (OwnM (w3.alloc (.cells #[.int .i64 Y0, .int .i64 X0, .int .i64 Y1, .int .i64 X1, .int .i64 P, .int .i64 q] 58)).drew w.heap.size 58 6 (.slice qt mt ct) mt (flatT ts)) := by
        have h := OwnM.below HM3.out.tr hBA
        rw [← HX.out.2.2.2.2.2.2.2.2.1] at h
        exact h
      have HNW : Hid (∀ j u, (tL ⟨Y0, X0, Y1, X1, P, q⟩)[j]? = some u → (w3.alloc (.cells #[.int .i64 Y0, .int .i64 X0, .int .i64 Y1, .int .i64 X1, .int .i64 P, .int .i64 q] 58)).drew.cell? ((⟨w3.heap.size, 0, none⟩ : Addr).add j) = some u) := by
        intro j u hu
        have := World.news_of_block (w := (w3.alloc (.cells #[.int .i64 Y0, .int .i64 X0, .int .i64 Y1, .int .i64 X1, .int .i64 P, .int .i64 q] 58)).drew) (heap_alloc_new w3 _) j u hu
        simpa using this
      have s3 : Hid (mt + 1 ≤ maxLen) := by show _ ≤ _; have := HX.out; unfold maxLen; omega
      have s4 : Hid ((mt + 1) * 48 ≤ 140737488355328) := by show _ ≤ _; have := HX.out; omega
      have s5 : Hid (w.heap.size ≤ (w3.alloc (.cells #[.int .i64 Y0, .int .i64 X0, .int .i64 Y1, .int .i64 X1, .int .i64 P, .int .i64 q] 58)).drew.heap.size) := by show _ ≤ _; have h1 := HM3.out.bel.size; have h2 := hBA.size; exact Nat.le_trans h1 h2
      have s6 : Hid (∀ u ∈ tL ⟨Y0, X0, Y1, X1, P, q⟩, u.oneCell' = true) := by
        intro u hu
        simp only [tL, List.mem_cons, List.not_mem_nil, or_false] at hu
        rcases hu with rfl | rfl | rfl | rfl | rfl | rfl <;> rfl
      clear hBA
      go_cut [9] from 51 to 76 (fun s9 wx => ∃ qt2 ct2, s9 = .slice qt2 (mt + 1) ct2 ∧ Aside (RM w G o n c os (.slice qt2 (mt + 1) ct2) (ts ++ [trOf os b s P q]) wx))
      case first =>
        go_region_law (refine step_append_mid _ rfl (.tmp 51) (.tmp 75) 34 rfl w.heap.size 58 j0 zeroT 6 48 Tryd.underlying34 HJ0.out hy0 hy1 hy2 rfl (.slice qt mt ct) mt (flatT ts) (by simp [Act.eval]) HR.out ⟨w3.heap.size, 0, none⟩ 1 1 (tL ⟨Y0, X0, Y1, X1, P, q⟩) (by simp [Act.eval]) rfl HNW.out s6.out s3.out s4.out s5.out ?_; intro v' w' hO' hgr hat)
        all_goals (
          obtain ⟨qt2, ct2, hv2⟩ := OwnM.form hO'
          subst hv2
          have HNX2 : Hid (RM w G o n c os (.slice qt2 (mt + 1) ct2) (ts ++ [trOf os b s P q]) w') := (by
            refine HM3.out.trade hgr ?_ hat
            rw [← HX.out.2.2.2.2.2.2.2.2.1, HTR.out]
            exact hO')
          clear hO' hgr hat
          go_wp2_with fail
          go_simp
          go_meet
          exact ⟨qt2, ct2, rfl, HNX2.out⟩)
      case rest =>
      obtain ⟨qt2, ct2, rfl, HM4⟩ := hcut
      have HM4' := hidC HM4.out
      clear HR HNW s3 s4 s5 s6 x0 x1 x5 y0 y1 y5 HM3 HM4
      obtain ⟨-, -, x5, -, -, -⟩ := HCL.out _ _ _ HM4'.out
      obtain ⟨fz, hr5⟩ := HT1.out _ _ _ HM4'.out
      have HM5 := hidC hr5
      have wv1 : wrap64 (X5 - q) = X5 - q := wrapW (X5 - q) _ rfl (by have := HN5.out; have := HXQ.out; omega) (by have := HN5.out; have := HX.out; omega)
      clear HCL HT1 hr5 HM4'
      go_upto_region 14 with fail
      generalize wc.setCell ⟨G, o + b * 8 + 5, none⟩ (.int .i64 (X5 - q)) = w5 at *
      clear x5 fz wv1
      obtain ⟨y5, fz, hr6⟩ := HT2.out _ _ _ HM5.out
      have HM6 := hidC hr6
      have wv2 : wrap64 (Y5 - q) = Y5 - q := wrapW (Y5 - q) _ rfl (by have := HN6.out; have := HXQ.out; omega) (by have := HN6.out; have := HX.out; omega)
      clear HT2 hr6 HM5
      go_upto_region 15 with fail
      generalize w5.setCell ⟨G, o + s * 8 + 5, none⟩ (.int .i64 (Y5 - q)) = w6 at *
      clear y5 fz wv2
      have wv : wrap64 (v - q) = v - q := wrapW (v - q) _ rfl (by have := HX.out; omega) (by have := HX.out; omega)
      go_wp2_with fail
      go_roundg (tl.length)
      case measure => have := HX.out; clear wv; omega
      case rel =>
        have h1 := HX.out
        have h2 := HNX.out
        refine ⟨v - q, qt2, mt + 1, ct2, by first | rfl | exact congrArg (Value.int .i64) wv, rfl, _, _, tl, ?_, Nat.le_refl _, HM6.out, h2.1, h2.2.1, h2.2.2.1, h2.2.2.2, by clear wv; omega⟩
        rw [List.length_append, ← h1.2.2.2.2.2.2.2.2.1]; rfl
    · have hvz : ¬ (0 : Int) < v := hv
      obtain ⟨rfl, rfl⟩ := u_end hUr hv
      rw [List.append_nil] at hTS
      have HU2 : Hid (U P V zs ts OS ∧ mt = ts.length ∧ mt ≤ 120 ∧ n = OS.length) := ⟨by rw [← hTS]; exact HU.out, hmt, by have := HB.out.2.2.1; rw [hTS] at this; omega, hM.len⟩
      have HM := hidC hM
      have HNN := hidC hNn
      have H0 : Hid (OwnM wr w.heap.size 44 8 (.slice none 0 0) 0 (flat ((OS.take 0).filter nz))) := ⟨rfl, .inl ⟨rfl, rfl⟩⟩
      clear hUr hTS hM hSh hNn hgg hmt hv6 hv HU
      go_wp2_with fail
      go_loopg [13, 14] n (fun g2 s13 s14 wi => ∃ (k : Nat) (qr : Option Addr) (mr cr : Nat), k ≤ n ∧ n - k ≤ g2 ∧ s14 = .int .i64 k ∧ s13 = .slice qr mr cr ∧ Aside (mr = ((OS.take k).filter nz).length ∧ RM w G o n c OS (.slice qt mt ct) ts wi ∧ OwnM wi w.heap.size 44 8 (.slice qr mr cr) mr (flat ((OS.take k).filter nz)) ∧ (∀ j, (Value.slice qr mr cr).ownBlock = some j → j ≠ G ∧ (Value.slice qt mt ct).ownBlock ≠ some j)))
      case atStart => exact ⟨0, none, 0, 0, Nat.zero_le _, by omega, rfl, rfl, rfl, HM.out, H0.out, fun j hj => by simp [Value.ownBlock] at hj⟩
      case round =>
        clear HM H0
        obtain ⟨k, qr, mr, cr, hkn, hg2, rfl, rfl, HA⟩ := hrel
        by_cases hlt : k < n
        · have hltz : (k : Int) < (n : Int) := by omega
          have hlz : k < OS.length := by have := HU2.out; omega
          obtain ⟨hmr, hM, hO, hap⟩ := HA.out
          obtain ⟨hx, -⟩ := hM.cells k hlz
          have hft := filt_take OS k hlz
          rw [nz_is HNN.out k] at hft
          rcases hxx : OS[k]! with ⟨a1, a2, a3, a4, a5, a6, a7, a8⟩
          rw [hxx] at hx hft
          simp only at hft
          have x0 := hx 0 _ rfl
          have x1 := hx 1 _ rfl
          have x2 := hx 2 _ rfl
          have x3 := hx 3 _ rfl
          have x4 := hx 4 _ rfl
          have x5 := hx 5 _ rfl
          have x6 := hx 6 _ rfl
          have x7 := hx 7 _ rfl
          simp only [Nat.add_zero] at x0
          have HK : Hid (k < n ∧ n - k ≤ gk ∧ k ≤ 60 ∧ mr ≤ 60) := ⟨hlt, hg2, by have := HB.out; omega, by
            rw [hmr]
            have h1 := List.length_filter_le nz (OS.take k)
            rw [List.length_take] at h1
            have := HB.out
            omega⟩
          have ek := succW k (by have := HK.out; omega)
          have HM := hidC hM
          have HO := hidC hO
          have HAP := hidC hap
          have HMR := hidC hmr
          by_cases hq : 0 < a6
          · have HFT : Hid ((OS.take (k + 1)).filter nz = (OS.take k).filter nz ++ [⟨a1, a2, a3, a4, a5, a6, a7, a8⟩]) := by show _ = _; rw [hft, if_pos (decide_eq_true hq)]
            have s3 : Hid (mr + 1 ≤ maxLen ∧ (mr + 1) * 64 ≤ 140737488355328) := by have := HK.out; clear ek; exact ⟨by unfold maxLen; omega, by omega⟩
            have HOA : Hid (OwnM (wr.alloc (.cells #[.int .i64 a1, .int .i64 a2, .int .i64 a3, .int .i64 a4, .int .i64 a5, .int .i64 a6, .int .i64 a7, .int .i64 a8] 44)) w.heap.size 44 8 (.slice qr mr cr) mr (flat ((OS.take k).filter nz))) := OwnM.below hO ((Below.refl _ wr).alloc (Nat.le_refl _) _)
            have HSZ : Hid (w.heap.size ≤ (wr.alloc (.cells #[.int .i64 a1, .int .i64 a2, .int .i64 a3, .int .i64 a4, .int .i64 a5, .int .i64 a6, .int .i64 a7, .int .i64 a8] 44)).heap.size) := by show _ ≤ _; have := hM.bel.size; simp; omega
            clear hx hxx hft hmr hM hO hap HA hlz hkn hg2 hlt
            go_wp2_with (at_builtin; (refine wpList_append_mid _ rfl _ _ 22 rfl w.heap.size 44 i0 zeroR 8 64 Tryd.underlying22 HI0.out hz0 hz1 hz2 rfl (.slice qr mr cr) mr (flat ((OS.take k).filter nz)) rfl HOA.out ⟨wr.heap.size, 0, none⟩ 1 1 (oL ⟨a1, a2, a3, a4, a5, a6, a7, a8⟩) rfl rfl (World.news_of_block (cs := #[.int .i64 a1, .int .i64 a2, .int .i64 a3, .int .i64 a4, .int .i64 a5, .int .i64 a6, .int .i64 a7, .int .i64 a8]) (heap_alloc_new _ _)) (by simp [Value.oneCell', oL]) s3.out.1 s3.out.2 HSZ.out ?_))
            intro v' w' hO' hgr hat
            obtain ⟨q', c', rfl⟩ := OwnM.form hO'
            have HN1 : Hid (mr + 1 = ((OS.take (k + 1)).filter nz).length) := by show _ = _; rw [HFT.out, List.length_append, ← HMR.out]; rfl
            have HN2 : Hid (OwnM w' w.heap.size 44 8 (.slice q' (mr + 1) c') (mr + 1) (flat ((OS.take (k + 1)).filter nz))) := by
              show OwnM _ _ _ _ _ _ _
              rw [HFT.out, flat_append]
              exact hO'
            have hAl : Below wr.heap.size wr (wr.alloc (.cells #[.int .i64 a1, .int .i64 a2, .int .i64 a3, .int .i64 a4, .int .i64 a5, .int .i64 a6, .int .i64 a7, .int .i64 a8] 44)) := (Below.refl _ wr).alloc (Nat.le_refl _) _
            have hMA := HM.out.on hAl
            have HN3 : Hid (RM w G o n c OS (.slice qt mt ct) ts w') := ⟨hMA.bel.grown hgr hMA.bel.size (fun j hj => (OwnM.lt HO.out j hj).1), hMA.len, OwnM.aside hMA.own hgr (fun j hj e => by have h1 := (HAP.out j e).1; have h2 : j = G := (by cases hj; rfl); exact h1 h2), OwnM.aside hMA.tr hgr (fun j hj e => (HAP.out j e).2 hj), hMA.ap⟩
            have HN4 : Hid (∀ j, (Value.slice q' (mr + 1) c').ownBlock = some j → j ≠ G ∧ (Value.slice qt mt ct).ownBlock ≠ some j) := fun j hj => by
              rcases hat with e | e
              · exact HAP.out j (by rw [← e]; exact hj)
              · rw [hj] at e
                injection e with e
                have h1 := HM.out.at.2
                have h3 := hAl.size
                have h4 : wr.heap.size ≤ j := by rw [e]; first | exact h3 | simp | (simp; omega)
                refine ⟨by clear ek; omega, fun e2 => ?_⟩
                have h2 := (OwnM.lt HM.out.tr j e2).2
                clear ek
                omega
            clear hO' hgr hat hAl hMA x0 x1 x2 x3 x4 x5 x6 x7 HOA HSZ s3 HFT HM HO HAP HMR
            go_wp2_with fail
            go_roundg (n - (k + 1))
            case measure => have := HK.out; clear ek; omega
            case rel => exact ⟨k + 1, q', mr + 1, c', HK.out.1, Nat.le_refl _, by first | rfl | exact congrArg (Value.int .i64) ek, rfl, HN1.out, HN3.out, HN2.out, HN4.out⟩
          · have HFT : Hid ((OS.take (k + 1)).filter nz = (OS.take k).filter nz) := by show _ = _; rw [hft, if_neg (by simpa using hq), List.append_nil]
            clear hx hxx hft hmr hM hO hap HA hlz hkn hg2 hlt
            go_wp2_with fail
            go_roundg (n - (k + 1))
            case measure => have := HK.out; clear ek; omega
            case rel => exact ⟨k + 1, qr, mr, cr, HK.out.1, Nat.le_refl _, by first | rfl | exact congrArg (Value.int .i64) ek, rfl, by rw [HFT.out]; exact HMR.out, HM.out, by rw [HFT.out]; exact HO.out, HAP.out⟩
        · have hltz : ¬ (k : Int) < (n : Int) := by omega
          obtain rfl : k = n := by omega
          obtain ⟨hmr, hM, hO, hap⟩ := HA.out
          rw [HU2.out.2.2.2, List.take_length] at hmr hO
          have HE : Hid (RUPost P V zs w (.returned (.tuple #[.slice qt mt ct, .slice qr mr cr])) wr) := by
            have h := HU2.out
            refine ⟨qt, mt, ct, qr, mr, cr, ts, OS, rfl, h.2.1, hmr, h.1, h.2.2.1, ?_, hO, hM.bel⟩
            have ht : OwnM wr w.heap.size 58 6 (.slice qt mt ct) ts.length (flatT ts) := hM.tr
            rw [← h.2.1] at ht
            exact ht
          clear hmr hM hO hap HA hkn hg2 hlt
          go_wp2_with fail
          go_returns
          exact HE.out
end Go.Proofs.YtabcfmpmkdoieaaDoor.cal
