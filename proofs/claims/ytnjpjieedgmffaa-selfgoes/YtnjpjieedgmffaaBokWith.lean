/- Contracts over this seat's translation: side.Drop at every side and id. Contracts over this seat's translation: book.with. -/
import Derived.Test.YtnjpjieedgmffaaSidDrop2
import Derived.Test.YtnjpjieedgmffaaBokChk
import Derived.Test.YtnjpjieedgmffaaSidDL
namespace Go.Proofs.Ytnjpjieedgmffaa.sid
open Go.RowKit Go.Proofs.Ytnjpjieedgmffaa.spn Go.Proofs.Ytnjpjieedgmffaa.que Go.Maps

/-- Drop, at every side and id. -/
theorem drop_any (s : Int) (v : Value) (ls : List L) (id : Int) (w : World) (h : LS w v ls) (hid : (Lit.int .i64 id).wf = true) :
    Calls Try.prog 60 #[.int .i64 s, v, .int .i64 id] w fun x w' => DropPost s ls id w x w' := by
  by_cases h0 : findE s ls id = 0
  · obtain ⟨hs, i, k, hi, hk, e1, e2⟩ := find_spot h0
    have hfv : findV s ls id = .tuple #[.int .i64 i, .int .i64 k, .nilIface] := by unfold findV; rw [e2, h0, errV_zero]
    rcases h with ⟨rfl, rfl⟩ | ⟨b, o, c, rfl, h2, h3, h4, h5⟩
    · simp at hi
    · obtain ⟨l, hl⟩ : ∃ l, ls[i]! = l := ⟨_, rfl⟩
      obtain ⟨p, zs⟩ := l
      have hle : ls[i] = ⟨p, zs⟩ := by rw [← hl, getE _ _ hi]
      have hk2 : k < zs.length := by rw [hle] at hk; exact hk
      obtain ⟨r, hr⟩ : ∃ r, zs[k]! = r := ⟨_, rfl⟩
      obtain ⟨r1, r2, r3, r4, r5⟩ := r
      refine drop_good s b o c ls.length ls id i k p zs r1 r2 r3 r4 r5 w rfl h4 h2 h3 h5 hid hs hfv hi hl hk2 hr (DropPost s ls id w) (fun W v3 hW hL => ⟨hW, v3, ?_, ?_⟩)
      · unfold dropRest dropPrice
        rw [if_pos h0, if_pos h0, e2, h0, errV_zero]
        simp only [Int.toNat_natCast]
        rw [hl]
        simp only []
        rw [hr]
        rfl
      · unfold dropE
        rw [if_pos h0, e2]
        simp only [Int.toNat_natCast]
        exact hL
  · obtain ⟨q, m, c, rfl⟩ := ls_form h
    exact drop_err s q m c ls id w h hid h0
end Go.Proofs.Ytnjpjieedgmffaa.sid
namespace Go.Proofs.Ytnjpjieedgmffaa.bok
open Go.RowKit Go.Proofs.Ytnjpjieedgmffaa.spn Go.Proofs.Ytnjpjieedgmffaa.que Go.Proofs.Ytnjpjieedgmffaa.sid

def zeroB : Value := .agg #[.slice none 0 0, .slice none 0 0]

/-- What 'with' answers. -/
def WiPost (s : Int) (bs ss ls : List L) (b0 : Nat) (w : World) (e : Ending) (w' : World) : Prop :=
  ∃ q1 q2 n1 n2 c1 c2, e = .returned (.agg #[.slice q1 n1 c1, .slice q2 n2 c2]) ∧ DL w' b0 (.slice q1 n1 c1) (if s = 1 then ls else bs) ∧ DL w' b0 (.slice q2 n2 c2) (if s = 1 then ss else ls) ∧ Below w.heap.size w w'
set_option maxRecDepth 100000 in
set_option maxHeartbeats 2000000 in
theorem with_any (s : Int) (q1 q2 q3 : Option Addr) (n1 n2 n3 c1 c2 c3 : Nat) (bs ss ls : List L) (b0 : Nat) (w : World) (h1 : LS w (.slice q1 n1 c1) bs) (h2 : LS w (.slice q2 n2 c2) ss) (h3 : DL w b0 (.slice q3 n3 c3) ls) (hb0 : b0 ≤ w.heap.size) (k1 : schk 1 bs = 0) (k2 : schk 2 ss = 0) :
    Calls Try.prog 46 #[.agg #[.slice q1 n1 c1, .slice q2 n2 c2], .int .i64 s, .slice q3 n3 c3] w fun e w' => WiPost s bs ss ls b0 w e w' := by
  have hlen : ∀ {t : Int} {xs : List L}, schk t xs = 0 → xs.length ≤ 1000 ∧ (∀ l ∈ xs, l.rests.length ≤ 1000) := fun {t xs} hk => by
    obtain ⟨-, z2, z3, -⟩ := schk_zero hk
    have := len_cnt (sgo_each z2)
    exact ⟨by omega, fun l hl => by have := rests_le hl; omega⟩
  have HF1 : Hid (∀ W, Below w.heap.size w W → Calls Try.prog 43 #[.slice q1 n1 c1] W fun e w' => FreshPost W bs e w') := fun W hW => fresh_any _ bs W (h1.below hW) (hlen k1).1 (hlen k1).2 (side_ne k1)
  have HF2 : Hid (∀ W, Below w.heap.size w W → Calls Try.prog 43 #[.slice q2 n2 c2] W fun e w' => FreshPost W ss e w') := fun W hW => fresh_any _ ss W (h2.below hW) (hlen k2).1 (hlen k2).2 (side_ne k2)
  have H3 : Hid (DL w b0 (.slice q3 n3 c3) ls) := h3
  obtain ⟨V, hV⟩ : ∃ V, V = (w.alloc (.cells #[.slice q1 n1 c1, .slice q2 n2 c2] 24)).alloc (.cells #[.slice none 0 0, .slice none 0 0] 24) := ⟨_, rfl⟩
  have HB : Hid (Below w.heap.size w V) := by rw [hV]; exact ((Below.refl _ _).alloc (Nat.le_refl _) _).alloc (by simp) _
  have v0 : V.cell? ⟨w.heap.size, 0, none⟩ = some (.slice q1 n1 c1) := by rw [hV]; simp [go_sem]
  have v1 : V.cell? ⟨w.heap.size, 1, none⟩ = some (.slice q2 n2 c2) := by rw [hV]; simp [go_sem]
  have hR : V.heap[w.heap.size + 1]? = some (.cells #[.slice none 0 0, .slice none 0 0] 24 (0, 0)) := by
    rw [hV]
    have := heap_alloc_new (w.alloc (.cells #[.slice q1 n1 c1, .slice q2 n2 c2] 24)) (.cells #[.slice none 0 0, .slice none 0 0] 24)
    simpa using this
  have hVs : w.heap.size + 1 < V.heap.size := (Array.getElem?_eq_some_iff.1 hR).1
  clear h1 h2 h3 k1 k2 hlen
  by_cases hs : s = 1
  · subst hs
    have HP : Hid (∀ W q m c, Below w.heap.size w W → DL W b0 (.slice q m c) ss → DL W b0 (.slice q3 n3 c3) ls → WiPost 1 bs ss ls b0 w (.returned (.agg #[.slice q3 n3 c3, .slice q m c])) W) := fun W q m c hW ha hb => ⟨q3, q, n3, m, c3, c, rfl, by rw [if_pos rfl]; exact hb, by rw [if_pos rfl]; exact ha, hW⟩
    generalize WiPost 1 bs ss ls b0 w = POST at *
    go_enter Try.func46, Try.ntmps46
    go_wp2_with fail
    rw [← hV]
    refine (HF2.out V HB.out).mono ?_
    rintro e w1 ⟨v', ps, rfl, hps, hD, b1⟩
    obtain ⟨q', c', hv'⟩ := OwnM.form hD.own
    generalize (ps.map (·.1) ++ ([] : List rlv.RL)).length = m' at hv'
    subst hv'
    have hB1 : Below w.heap.size w w1 := HB.out.trans (b1.mono HB.out.size)
    have hR1 : w1.heap[w.heap.size + 1]? = some (.cells #[.slice none 0 0, .slice none 0 0] 24 (0, 0)) := by rw [b1.block _ hVs]; exact hR
    obtain ⟨e0, e1, hf⟩ := rowTwo hR1
    have f0 := hf 0
    have f1 := hf 1
    have HX := setTwo hR1 (.slice q3 n3 c3) (.slice q' m' c')
    have hg := grTwo w1 (w.heap.size + 1) (.slice q3 n3 c3) (.slice q' m' c')
    have hD2 : DL _ b0 _ _ := ⟨ps, hps, (hD.other hg hVs).mono (Nat.le_trans hb0 HB.out.size)⟩
    have HPX := HP.out _ q' m' c' (hB1.grown hg hB1.size (fun k hk => by cases hk; omega)) hD2 (dl_grown H3.out hB1 hg (by omega))
    have HHX : Hid (((w1.setCell ⟨w.heap.size + 1, 0, none⟩ (.slice q3 n3 c3)).setCell ⟨w.heap.size + 1, 1, none⟩ (.slice q' m' c')).heap[w.heap.size + 1]? = some (.cells #[.slice q3 n3 c3, .slice q' m' c'] 24 (0, 0))) := HX
    clear hD hps hB1 hR1 hf HX hg hD2 HP HF1 HF2 b1 hR v0 v1
    go_wp2_with fail
    generalize (w1.setCell ⟨w.heap.size + 1, 0, none⟩ (.slice q3 n3 c3)).setCell ⟨w.heap.size + 1, 1, none⟩ (.slice q' m' c') = X at *
    obtain ⟨y0, y1, -⟩ := rowTwo HHX.out
    exact bodyPost_ret (v := .agg #[.slice q3 n3 c3, .slice q' m' c']) (by simp [results, Try.results46, go_sem, y0, y1]) rfl HPX
  · have hs1 : (s == 1) = false := by simpa using hs
    have HP : Hid (∀ W q m c, Below w.heap.size w W → DL W b0 (.slice q m c) bs → DL W b0 (.slice q3 n3 c3) ls → WiPost s bs ss ls b0 w (.returned (.agg #[.slice q m c, .slice q3 n3 c3])) W) := fun W q m c hW ha hb => ⟨q, q3, m, n3, c, c3, rfl, by rw [if_neg hs]; exact ha, by rw [if_neg hs]; exact hb, hW⟩
    generalize WiPost s bs ss ls b0 w = POST at *
    go_enter Try.func46, Try.ntmps46
    go_wp2_with fail
    rw [← hV]
    refine (HF1.out V HB.out).mono ?_
    rintro e w1 ⟨v', ps, rfl, hps, hD, b1⟩
    obtain ⟨q', c', hv'⟩ := OwnM.form hD.own
    generalize (ps.map (·.1) ++ ([] : List rlv.RL)).length = m' at hv'
    subst hv'
    have hB1 : Below w.heap.size w w1 := HB.out.trans (b1.mono HB.out.size)
    have hR1 : w1.heap[w.heap.size + 1]? = some (.cells #[.slice none 0 0, .slice none 0 0] 24 (0, 0)) := by rw [b1.block _ hVs]; exact hR
    obtain ⟨e0, e1, hf⟩ := rowTwo hR1
    have f0 := hf 0
    have f1 := hf 1
    have HX := setTwo hR1 (.slice q' m' c') (.slice q3 n3 c3)
    have hg := grTwo w1 (w.heap.size + 1) (.slice q' m' c') (.slice q3 n3 c3)
    have hD2 : DL _ b0 _ _ := ⟨ps, hps, (hD.other hg hVs).mono (Nat.le_trans hb0 HB.out.size)⟩
    have HPX := HP.out _ q' m' c' (hB1.grown hg hB1.size (fun k hk => by cases hk; omega)) hD2 (dl_grown H3.out hB1 hg (by omega))
    have HHX : Hid (((w1.setCell ⟨w.heap.size + 1, 0, none⟩ (.slice q' m' c')).setCell ⟨w.heap.size + 1, 1, none⟩ (.slice q3 n3 c3)).heap[w.heap.size + 1]? = some (.cells #[.slice q' m' c', .slice q3 n3 c3] 24 (0, 0))) := HX
    clear hD hps hB1 hR1 hf HX hg hD2 HP HF1 HF2 b1 hR v0 v1
    go_wp2_with fail
    generalize (w1.setCell ⟨w.heap.size + 1, 0, none⟩ (.slice q' m' c')).setCell ⟨w.heap.size + 1, 1, none⟩ (.slice q3 n3 c3) = X at *
    obtain ⟨y0, y1, -⟩ := rowTwo HHX.out
    exact bodyPost_ret (v := .agg #[.slice q' m' c', .slice q3 n3 c3]) (by simp [results, Try.results46, go_sem, y0, y1]) rfl HPX
end Go.Proofs.Ytnjpjieedgmffaa.bok
