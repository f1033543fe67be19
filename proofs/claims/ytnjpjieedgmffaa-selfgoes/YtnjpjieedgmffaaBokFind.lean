/- Contracts over this seat's translation: book.Find, where the id is in the book. -/
import Derived.Test.YtnjpjieedgmffaaBokChk
import Derived.Deep.RegionHeld3
namespace Go.Proofs.Ytnjpjieedgmffaa.bok
open Go.RowKit Go.Proofs.Ytnjpjieedgmffaa.spn Go.Proofs.Ytnjpjieedgmffaa.que Go.Proofs.Ytnjpjieedgmffaa.sid

/-- What lies at a rest of a side. -/
theorem spot_at {w : World} {q : Option Addr} {n c : Nat} {ls : List L} (h : LS w (.slice q n c) ls) {i k : Nat} (hi : i < ls.length) (hk : k < ls[i].rests.length) : ∃ b o rb ro rc r1 r2 r3 r4 r5, q = some ⟨b, o, none⟩ ∧ b < w.heap.size ∧ rb < w.heap.size ∧ ls[i].rests[k] = ⟨r1, r2, r3, r4, r5⟩ ∧ w.cell? ⟨b, o + i * 2, none⟩ = some (.int .i64 ls[i].price) ∧ w.cell? ⟨b, o + i * 2 + 1, none⟩ = some (.slice (some ⟨rb, ro, none⟩) ls[i].rests.length rc) ∧ w.cell? ⟨rb, ro + k * 5, none⟩ = some (.int .i64 r1) ∧ w.cell? ⟨rb, ro + k * 5 + 1, none⟩ = some (.int .i64 r2) ∧ w.cell? ⟨rb, ro + k * 5 + 2, none⟩ = some (.int .i64 r3) ∧ w.cell? ⟨rb, ro + k * 5 + 3, none⟩ = some (.int .i64 r4) ∧ w.cell? ⟨rb, ro + k * 5 + 4, none⟩ = some (.int .i64 r5) := by
  rcases h with ⟨-, e⟩ | ⟨b, o, c', e, -, -, hb, hl⟩
  · rw [e] at hi; simp at hi
  · cases e
    obtain ⟨l, hle⟩ : ∃ l, ls[i] = l := ⟨_, rfl⟩
    obtain ⟨p, zs⟩ := l
    have hle2 : ls[i]! = ⟨p, zs⟩ := by rw [getE _ _ hi]; exact hle
    have hk2 : k < zs.length := by rw [hle] at hk; exact hk
    obtain ⟨q, rc, l0, l1, hsl⟩ := hl.at hi hle2
    obtain ⟨rb, ro, hq, -, hrb, hlr⟩ := sl_some hsl hk2
    subst hq
    obtain ⟨r, hr⟩ : ∃ r, zs[k]! = r := ⟨_, rfl⟩
    obtain ⟨r1, r2, r3, r4, r5⟩ := r
    obtain ⟨v0, v1, v2, v3, v4⟩ := lies_at hlr hk2 hr
    have hrr : ls[i].rests[k] = ⟨r1, r2, r3, r4, r5⟩ := by
      have : ls[i].rests[k] = zs[k] := by simp only [hle]
      rw [this, ← hr, getE _ _ hk2]
    refine ⟨b, o, rb, ro, rc, r1, r2, r3, r4, r5, rfl, hb, hrb, hrr, by rw [hle]; exact l0, by rw [hle]; exact l1, v0, v1, v2, v3, v4⟩

set_option maxRecDepth 100000 in
set_option maxHeartbeats 4000000 in
theorem find_in1 (q1 q2 : Option Addr) (n1 n2 c1 c2 : Nat) (bs ss : List L) (id : Int) (hid : (Lit.int .i64 id).wf = true) (i k : Nat) (w : World) (h1 : LS w (.slice q1 n1 c1) bs) (h2 : LS w (.slice q2 n2 c2) ss) (h0 : bookE bs ss = 0) (hi : i < bs.length) (hk : k < bs[i].rests.length) (hfv : findV 1 bs id = .tuple #[.int .i64 i, .int .i64 k, .nilIface]) :
    Calls Try.prog 35 #[.agg #[.slice q1 n1 c1, .slice q2 n2 c2], .int .i64 id] w fun e w' => e = .returned (.tuple #[.int .i64 1, .int .i64 bs[i].price, .agg (rV bs[i].rests[k]).toArray, .nilIface]) ∧ Below w.heap.size w w' := by
  have HCH := fun W (hW : Below w.heap.size w W) => check_any q1 q2 n1 n2 c1 c2 bs ss W (h1.below hW) (h2.below hW)
  rw [h0, errV_zero] at HCH
  have HFX := fun W (hW : Below w.heap.size w W) => find_any 1 _ bs id W (h1.below hW) hid
  rw [hfv] at HFX
  obtain ⟨b, o, rb, ro, rc, r1, r2, r3, r4, r5, hq, hbs, hrbs, hrr, a0, a1, z0, z1, z2, z3, z4⟩ := spot_at h1 hi hk
  rw [hrr]
  show Calls _ _ _ _ fun e w' => e = .returned (.tuple #[.int .i64 1, .int .i64 bs[i].price, .agg #[.int .i64 r1, .int .i64 r2, .int .i64 r3, .int .i64 r4, .int .i64 r5], .nilIface]) ∧ Below w.heap.size w w'
  have hin : i < n1 := by rw [ls_len h1]; exact hi
  obtain ⟨ee1, ee2, -⟩ := book_zero h0
  have hn60 : n1 ≤ 60 := by have := len_le (side_ne ee1); have := (schk_zero ee1).2.2.1; rw [ls_len h1]; omega
  have hm60 : bs[i].rests.length ≤ 60 := by have := rests_le (List.getElem_mem hi); have := (schk_zero ee1).2.2.1; omega
  clear hrr
  generalize bs[i].price = p at *
  generalize hmm : bs[i].rests.length = m at *
  subst hq
  obtain ⟨V, hV⟩ : ∃ V, V = (w.alloc (.cells #[.slice (some ⟨b, o, none⟩) n1 c1, .slice q2 n2 c2] 24)).alloc (.cells #[.int .i64 0, .int .i64 0, .int .i64 0, .int .i64 0, .int .i64 0] 28) := ⟨_, rfl⟩
  have HB : Hid (Below w.heap.size w V) := by rw [hV]; exact ((Below.refl _ _).alloc (Nat.le_refl _) _).alloc (by simp) _
  have v0 : V.cell? ⟨w.heap.size, 0, none⟩ = some (.slice (some ⟨b, o, none⟩) n1 c1) := by rw [hV]; simp [go_sem]
  have v1 : V.cell? ⟨w.heap.size, 1, none⟩ = some (.slice q2 n2 c2) := by rw [hV]; simp [go_sem]
  have hR : V.heap[w.heap.size + 1]? = some (.cells #[.int .i64 0, .int .i64 0, .int .i64 0, .int .i64 0, .int .i64 0] 28 (0, 0)) := by
    rw [hV]
    have := heap_alloc_new (w.alloc (.cells #[.slice (some ⟨b, o, none⟩) n1 c1, .slice q2 n2 c2] 24)) (.cells #[.int .i64 0, .int .i64 0, .int .i64 0, .int .i64 0, .int .i64 0] 28)
    simpa using this
  have hVs : w.heap.size + 1 < V.heap.size := (Array.getElem?_eq_some_iff.1 hR).1
  have SO : Hid (∀ W, Below w.heap.size w W → (Below w.heap.size w W ∧ W.cell? ⟨b, o + i * 2, none⟩ = some (.int .i64 p) ∧ W.cell? ⟨b, o + i * 2 + 1, none⟩ = some (.slice (some ⟨rb, ro, none⟩) m rc) ∧ W.cell? ⟨rb, ro + k * 5, none⟩ = some (.int .i64 r1) ∧ W.cell? ⟨rb, ro + k * 5 + 1, none⟩ = some (.int .i64 r2) ∧ W.cell? ⟨rb, ro + k * 5 + 2, none⟩ = some (.int .i64 r3) ∧ W.cell? ⟨rb, ro + k * 5 + 3, none⟩ = some (.int .i64 r4) ∧ W.cell? ⟨rb, ro + k * 5 + 4, none⟩ = some (.int .i64 r5))) := fun W hW => ⟨hW, keeps hW a0, keeps hW a1, keeps hW z0, keeps hW z1, keeps hW z2, keeps hW z3, keeps hW z4⟩
  clear h1 h2 h0 a0 a1 z0 z1 z2 z3 z4 hfv ee1 ee2 hid hmm
  have i0 : ¬ ((i : Int) < 0) := by omega
  have i1 : (i : Int) < (n1 : Int) := by omega
  have i4 : (0 : Int) ≤ (i : Int) := by omega
  have k0 : ¬ ((k : Int) < 0) := by omega
  have k1 : (k : Int) < (m : Int) := by omega
  have k4 : (0 : Int) ≤ (k : Int) := by omega
  go_enter Try.func35, Try.ntmps35
  go_wp2_with fail
  rw [← hV]
  refine (HCH V HB.out).mono ?_
  rintro x w1 ⟨rfl, b1⟩
  have HB1 : Hid (Below w.heap.size w w1) := HB.out.trans (b1.mono HB.out.size)
  have x0 := keeps b1 v0
  have x1 := keeps b1 v1
  have hR1 : w1.heap[w.heap.size + 1]? = some (.cells #[.int .i64 0, .int .i64 0, .int .i64 0, .int .i64 0, .int .i64 0] 28 (0, 0)) := by rw [b1.block _ hVs]; exact hR
  have hs1 : w.heap.size + 1 < w1.heap.size := Nat.lt_of_lt_of_le hVs b1.size
  clear b1 HCH v0 v1 hR
  go_wp2_with fail
  go_loopg [9, 10, 11, 12, 13] 2 (fun _ s9 _ _ _ _ wr => s9 = .int .i64 1 ∧ wr = w1)
  case atStart => exact ⟨rfl, rfl⟩
  case round =>
    obtain ⟨rfl, rfl⟩ := hrel
    have d0 := x0
    have d1 := x1
    have HW1 := HB1
    go_wp2_with fail
    refine (levels_any 1 (some ⟨b, o, none⟩) q2 n1 n2 c1 c2 wr).mono ?_
    rintro x w2 ⟨rfl, b2⟩
    rw [show (if (1 : Int) = 1 then Value.slice (some ⟨b, o, none⟩) n1 c1 else .slice q2 n2 c2) = .slice (some ⟨b, o, none⟩) n1 c1 from rfl]
    have HB2 : Hid (Below wr.heap.size wr w2) := b2
    clear b2
    go_wp2_with fail
    refine (HFX w2 (HW1.out.trans (HB2.out.mono HW1.out.size))).mono ?_
    rintro x w3 ⟨rfl, b3⟩
    have HB3 : Hid (Below wr.heap.size wr w3) := HB2.out.trans (b3.mono HB2.out.size)
    have HBW : Hid (Below w.heap.size w w3) := HW1.out.trans (HB3.out.mono HW1.out.size)
    have hRW : w3.heap[w.heap.size + 1]? = some (.cells #[.int .i64 0, .int .i64 0, .int .i64 0, .int .i64 0, .int .i64 0] 28 (0, 0)) := by rw [HB3.out.block _ hs1]; exact hR1
    clear b3 HFX d0 d1 hR1
    obtain ⟨e0, e1, e2, e3, e4, hfr⟩ := rowFive hRW
    have f0 := hfr 0
    have f1 := hfr 1
    have f2 := hfr 2
    have f3 := hfr 3
    have f4 := hfr 4
    have hBW := HBW.out
    have HHX : Hid ((((((w3.setCell ⟨w.heap.size + 1, 0, none⟩ (.int .i64 r1)).setCell ⟨w.heap.size + 1, 1, none⟩ (.int .i64 r2)).setCell ⟨w.heap.size + 1, 2, none⟩ (.int .i64 r3)).setCell ⟨w.heap.size + 1, 3, none⟩ (.int .i64 r4)).setCell ⟨w.heap.size + 1, 4, none⟩ (.int .i64 r5)).heap[w.heap.size + 1]? = some (.cells #[.int .i64 r1, .int .i64 r2, .int .i64 r3, .int .i64 r4, .int .i64 r5] 28 (0, 0))) := setFive hRW _ _ _ _ _
    have HBX : Below w.heap.size w (((((w3.setCell ⟨w.heap.size + 1, 0, none⟩ (.int .i64 r1)).setCell ⟨w.heap.size + 1, 1, none⟩ (.int .i64 r2)).setCell ⟨w.heap.size + 1, 2, none⟩ (.int .i64 r3)).setCell ⟨w.heap.size + 1, 3, none⟩ (.int .i64 r4)).setCell ⟨w.heap.size + 1, 4, none⟩ (.int .i64 r5)) := ((((hBW.setCell (Nat.le_succ _) _).setCell (Nat.le_succ _) _).setCell (Nat.le_succ _) _).setCell (Nat.le_succ _) _).setCell (Nat.le_succ _) _
    have HBX2 : Hid (Below w.heap.size w (((((w3.setCell ⟨w.heap.size + 1, 0, none⟩ (.int .i64 r1)).setCell ⟨w.heap.size + 1, 1, none⟩ (.int .i64 r2)).setCell ⟨w.heap.size + 1, 2, none⟩ (.int .i64 r3)).setCell ⟨w.heap.size + 1, 3, none⟩ (.int .i64 r4)).setCell ⟨w.heap.size + 1, 4, none⟩ (.int .i64 r5)) ∧ Below w.heap.size w (((((w3.setCell ⟨w.heap.size + 1, 0, none⟩ (.int .i64 r1)).setCell ⟨w.heap.size + 1, 1, none⟩ (.int .i64 r2)).setCell ⟨w.heap.size + 1, 2, none⟩ (.int .i64 r3)).setCell ⟨w.heap.size + 1, 3, none⟩ (.int .i64 r4)).setCell ⟨w.heap.size + 1, 4, none⟩ (.int .i64 r5)).drew) := ⟨HBX, HBX.drew⟩
    clear hfr hRW HBX
    go_upto_region 10 with fail
    go_region_held3 (fun W => Below w.heap.size w W ∧ W.cell? ⟨b, o + i * 2, none⟩ = some (.int .i64 p) ∧ W.cell? ⟨b, o + i * 2 + 1, none⟩ = some (.slice (some ⟨rb, ro, none⟩) m rc) ∧ W.cell? ⟨rb, ro + k * 5, none⟩ = some (.int .i64 r1) ∧ W.cell? ⟨rb, ro + k * 5 + 1, none⟩ = some (.int .i64 r2) ∧ W.cell? ⟨rb, ro + k * 5 + 2, none⟩ = some (.int .i64 r3) ∧ W.cell? ⟨rb, ro + k * 5 + 3, none⟩ = some (.int .i64 r4) ∧ W.cell? ⟨rb, ro + k * 5 + 4, none⟩ = some (.int .i64 r5))
      ((refine SO.out _ ?_; (repeat' (first | with_reducible assumption | with_reducible refine bal ?_ _ | with_reducible refine Below.setCell ?_ ?_ _ | with_reducible refine Below.drew ?_ | with_reducible exact Below.refl _ _ | with_reducible exact Nat.le_refl _ | with_reducible exact Nat.le_succ _ | with_reducible exact Below.size (by with_reducible assumption) | with_reducible refine Nat.le_succ_of_le ?_))))
      (fail)
    go_wp2_with fail
    generalize (((((w3.setCell ⟨w.heap.size + 1, 0, none⟩ (.int .i64 r1)).setCell ⟨w.heap.size + 1, 1, none⟩ (.int .i64 r2)).setCell ⟨w.heap.size + 1, 2, none⟩ (.int .i64 r3)).setCell ⟨w.heap.size + 1, 3, none⟩ (.int .i64 r4)).setCell ⟨w.heap.size + 1, 4, none⟩ (.int .i64 r5)) = X at *
    obtain ⟨y0, y1, y2, y3, y4, -⟩ := rowFive HHX.out
    first | exact bodyPost_ret (v := .tuple #[.int .i64 1, .int .i64 p, .agg #[.int .i64 r1, .int .i64 r2, .int .i64 r3, .int .i64 r4, .int .i64 r5], .nilIface]) (by simp [results, Try.results35, go_sem, y0, y1, y2, y3, y4]) rfl ⟨rfl, HBX2.out.2⟩ | exact bodyPost_ret (v := .tuple #[.int .i64 1, .int .i64 p, .agg #[.int .i64 r1, .int .i64 r2, .int .i64 r3, .int .i64 r4, .int .i64 r5], .nilIface]) (by simp [results, Try.results35, go_sem, y0, y1, y2, y3, y4]) rfl ⟨rfl, HBX2.out.1⟩

set_option maxRecDepth 100000 in
set_option maxHeartbeats 4000000 in
theorem find_in2 (q1 q2 : Option Addr) (n1 n2 c1 c2 : Nat) (bs ss : List L) (id : Int) (hid : (Lit.int .i64 id).wf = true) (i k : Nat) (w : World) (h1 : LS w (.slice q1 n1 c1) bs) (h2 : LS w (.slice q2 n2 c2) ss) (h0 : bookE bs ss = 0) (hno : findE 1 bs id = 5) (hi : i < ss.length) (hk : k < ss[i].rests.length) (hfv : findV 2 ss id = .tuple #[.int .i64 i, .int .i64 k, .nilIface]) :
    Calls Try.prog 35 #[.agg #[.slice q1 n1 c1, .slice q2 n2 c2], .int .i64 id] w fun e w' => e = .returned (.tuple #[.int .i64 2, .int .i64 ss[i].price, .agg (rV ss[i].rests[k]).toArray, .nilIface]) ∧ Below w.heap.size w w' := by
  have HCH := fun W (hW : Below w.heap.size w W) => check_any q1 q2 n1 n2 c1 c2 bs ss W (h1.below hW) (h2.below hW)
  rw [h0, errV_zero] at HCH
  have HFX := fun W (hW : Below w.heap.size w W) => find_any 2 _ ss id W (h2.below hW) hid
  rw [hfv] at HFX
  have HF1 := fun W (hW : Below w.heap.size w W) => find_any 1 _ bs id W (h1.below hW) hid
  rw [show findV 1 bs id = .tuple #[.int .i64 0, .int .i64 0, .iface 64 (.int .i64 5)] from by unfold findV findP; rw [if_neg (by omega), hno]; rfl] at HF1
  obtain ⟨b, o, rb, ro, rc, r1, r2, r3, r4, r5, hq, hbs, hrbs, hrr, a0, a1, z0, z1, z2, z3, z4⟩ := spot_at h2 hi hk
  rw [hrr]
  show Calls _ _ _ _ fun e w' => e = .returned (.tuple #[.int .i64 2, .int .i64 ss[i].price, .agg #[.int .i64 r1, .int .i64 r2, .int .i64 r3, .int .i64 r4, .int .i64 r5], .nilIface]) ∧ Below w.heap.size w w'
  have hin : i < n2 := by rw [ls_len h2]; exact hi
  obtain ⟨ee1, ee2, -⟩ := book_zero h0
  have hn60 : n2 ≤ 60 := by have := len_le (side_ne ee2); have := (schk_zero ee2).2.2.1; rw [ls_len h2]; omega
  have hm60 : ss[i].rests.length ≤ 60 := by have := rests_le (List.getElem_mem hi); have := (schk_zero ee2).2.2.1; omega
  clear hrr
  generalize ss[i].price = p at *
  generalize hmm : ss[i].rests.length = m at *
  subst hq
  obtain ⟨V, hV⟩ : ∃ V, V = (w.alloc (.cells #[.slice q1 n1 c1, .slice (some ⟨b, o, none⟩) n2 c2] 24)).alloc (.cells #[.int .i64 0, .int .i64 0, .int .i64 0, .int .i64 0, .int .i64 0] 28) := ⟨_, rfl⟩
  have HB : Hid (Below w.heap.size w V) := by rw [hV]; exact ((Below.refl _ _).alloc (Nat.le_refl _) _).alloc (by simp) _
  have v0 : V.cell? ⟨w.heap.size, 0, none⟩ = some (.slice q1 n1 c1) := by rw [hV]; simp [go_sem]
  have v1 : V.cell? ⟨w.heap.size, 1, none⟩ = some (.slice (some ⟨b, o, none⟩) n2 c2) := by rw [hV]; simp [go_sem]
  have hR : V.heap[w.heap.size + 1]? = some (.cells #[.int .i64 0, .int .i64 0, .int .i64 0, .int .i64 0, .int .i64 0] 28 (0, 0)) := by
    rw [hV]
    have := heap_alloc_new (w.alloc (.cells #[.slice q1 n1 c1, .slice (some ⟨b, o, none⟩) n2 c2] 24)) (.cells #[.int .i64 0, .int .i64 0, .int .i64 0, .int .i64 0, .int .i64 0] 28)
    simpa using this
  have hVs : w.heap.size + 1 < V.heap.size := (Array.getElem?_eq_some_iff.1 hR).1
  have SO : Hid (∀ W, Below w.heap.size w W → (Below w.heap.size w W ∧ W.cell? ⟨b, o + i * 2, none⟩ = some (.int .i64 p) ∧ W.cell? ⟨b, o + i * 2 + 1, none⟩ = some (.slice (some ⟨rb, ro, none⟩) m rc) ∧ W.cell? ⟨rb, ro + k * 5, none⟩ = some (.int .i64 r1) ∧ W.cell? ⟨rb, ro + k * 5 + 1, none⟩ = some (.int .i64 r2) ∧ W.cell? ⟨rb, ro + k * 5 + 2, none⟩ = some (.int .i64 r3) ∧ W.cell? ⟨rb, ro + k * 5 + 3, none⟩ = some (.int .i64 r4) ∧ W.cell? ⟨rb, ro + k * 5 + 4, none⟩ = some (.int .i64 r5))) := fun W hW => ⟨hW, keeps hW a0, keeps hW a1, keeps hW z0, keeps hW z1, keeps hW z2, keeps hW z3, keeps hW z4⟩
  clear h1 h2 h0 a0 a1 z0 z1 z2 z3 z4 hfv ee1 ee2 hid hmm
  have i0 : ¬ ((i : Int) < 0) := by omega
  have i1 : (i : Int) < (n2 : Int) := by omega
  have i4 : (0 : Int) ≤ (i : Int) := by omega
  have k0 : ¬ ((k : Int) < 0) := by omega
  have k1 : (k : Int) < (m : Int) := by omega
  have k4 : (0 : Int) ≤ (k : Int) := by omega
  go_enter Try.func35, Try.ntmps35
  go_wp2_with fail
  rw [← hV]
  refine (HCH V HB.out).mono ?_
  rintro x w1 ⟨rfl, b1⟩
  have HB1 : Hid (Below w.heap.size w w1) := HB.out.trans (b1.mono HB.out.size)
  have x0 := keeps b1 v0
  have x1 := keeps b1 v1
  have hR1 : w1.heap[w.heap.size + 1]? = some (.cells #[.int .i64 0, .int .i64 0, .int .i64 0, .int .i64 0, .int .i64 0] 28 (0, 0)) := by rw [b1.block _ hVs]; exact hR
  have hs1 : w.heap.size + 1 < w1.heap.size := Nat.lt_of_lt_of_le hVs b1.size
  clear b1 HCH v0 v1 hR
  go_wp2_with fail
  go_loopg [9, 10, 11, 12, 13] 2 (fun gg s9 _ _ _ _ wr => ((s9 = .int .i64 1 ∧ 2 ≤ gg) ∨ s9 = .int .i64 2) ∧ Aside (Below w1.heap.size w1 wr))
  case atStart => exact ⟨.inl ⟨rfl, Nat.le_refl _⟩, Below.refl _ _⟩
  case round =>
    obtain ⟨hor, BW⟩ := hrel
    have d0 := keeps BW.out x0
    have d1 := keeps BW.out x1
    have HW1 : Hid (Below w.heap.size w wr) := HB1.out.trans (BW.out.mono HB1.out.size)
    have hsr : w.heap.size + 1 < wr.heap.size := Nat.lt_of_lt_of_le hs1 BW.out.size
    rcases hor with ⟨rfl, hgk⟩ | rfl
    · have hgm : 1 < gk := by omega
      go_wp2_with fail
      refine (levels_any 1 q1 (some ⟨b, o, none⟩) n1 n2 c1 c2 wr).mono ?_
      rintro x w2 ⟨rfl, b2⟩
      rw [show (if (1 : Int) = 1 then Value.slice q1 n1 c1 else .slice (some ⟨b, o, none⟩) n2 c2) = .slice q1 n1 c1 from rfl]
      have HB2 : Hid (Below wr.heap.size wr w2) := b2
      clear b2
      go_wp2_with fail
      refine (HF1 w2 (HW1.out.trans (HB2.out.mono HW1.out.size))).mono ?_
      rintro x w3 ⟨rfl, b3⟩
      have HB3 : Hid (Below w1.heap.size w1 w3) := BW.out.trans ((HB2.out.trans (b3.mono HB2.out.size)).mono BW.out.size)
      clear b3 HF1 HFX d0 d1
      go_wp2_with fail
      go_roundg 1
      case measure => exact hgm
      case rel => exact ⟨.inr rfl, HB3.out⟩
    · go_wp2_with fail
      refine (levels_any 2 q1 (some ⟨b, o, none⟩) n1 n2 c1 c2 wr).mono ?_
      rintro x w2 ⟨rfl, b2⟩
      rw [show (if (2 : Int) = 1 then Value.slice q1 n1 c1 else .slice (some ⟨b, o, none⟩) n2 c2) = .slice (some ⟨b, o, none⟩) n2 c2 from rfl]
      have HB2 : Hid (Below wr.heap.size wr w2) := b2
      clear b2
      go_wp2_with fail
      refine (HFX w2 (HW1.out.trans (HB2.out.mono HW1.out.size))).mono ?_
      rintro x w3 ⟨rfl, b3⟩
      have HB3 : Hid (Below w1.heap.size w1 w3) := BW.out.trans ((HB2.out.trans (b3.mono HB2.out.size)).mono BW.out.size)
      have HBW : Hid (Below w.heap.size w w3) := HB1.out.trans (HB3.out.mono HB1.out.size)
      have hRW : w3.heap[w.heap.size + 1]? = some (.cells #[.int .i64 0, .int .i64 0, .int .i64 0, .int .i64 0, .int .i64 0] 28 (0, 0)) := by rw [HB3.out.block _ hs1]; exact hR1
      clear b3 HFX HF1 d0 d1 hR1
      obtain ⟨e0, e1, e2, e3, e4, hfr⟩ := rowFive hRW
      have f0 := hfr 0
      have f1 := hfr 1
      have f2 := hfr 2
      have f3 := hfr 3
      have f4 := hfr 4
      have hBW := HBW.out
      have HHX : Hid ((((((w3.setCell ⟨w.heap.size + 1, 0, none⟩ (.int .i64 r1)).setCell ⟨w.heap.size + 1, 1, none⟩ (.int .i64 r2)).setCell ⟨w.heap.size + 1, 2, none⟩ (.int .i64 r3)).setCell ⟨w.heap.size + 1, 3, none⟩ (.int .i64 r4)).setCell ⟨w.heap.size + 1, 4, none⟩ (.int .i64 r5)).heap[w.heap.size + 1]? = some (.cells #[.int .i64 r1, .int .i64 r2, .int .i64 r3, .int .i64 r4, .int .i64 r5] 28 (0, 0))) := setFive hRW _ _ _ _ _
      have HBX : Below w.heap.size w (((((w3.setCell ⟨w.heap.size + 1, 0, none⟩ (.int .i64 r1)).setCell ⟨w.heap.size + 1, 1, none⟩ (.int .i64 r2)).setCell ⟨w.heap.size + 1, 2, none⟩ (.int .i64 r3)).setCell ⟨w.heap.size + 1, 3, none⟩ (.int .i64 r4)).setCell ⟨w.heap.size + 1, 4, none⟩ (.int .i64 r5)) := ((((hBW.setCell (Nat.le_succ _) _).setCell (Nat.le_succ _) _).setCell (Nat.le_succ _) _).setCell (Nat.le_succ _) _).setCell (Nat.le_succ _) _
      have HBX2 : Hid (Below w.heap.size w (((((w3.setCell ⟨w.heap.size + 1, 0, none⟩ (.int .i64 r1)).setCell ⟨w.heap.size + 1, 1, none⟩ (.int .i64 r2)).setCell ⟨w.heap.size + 1, 2, none⟩ (.int .i64 r3)).setCell ⟨w.heap.size + 1, 3, none⟩ (.int .i64 r4)).setCell ⟨w.heap.size + 1, 4, none⟩ (.int .i64 r5)) ∧ Below w.heap.size w (((((w3.setCell ⟨w.heap.size + 1, 0, none⟩ (.int .i64 r1)).setCell ⟨w.heap.size + 1, 1, none⟩ (.int .i64 r2)).setCell ⟨w.heap.size + 1, 2, none⟩ (.int .i64 r3)).setCell ⟨w.heap.size + 1, 3, none⟩ (.int .i64 r4)).setCell ⟨w.heap.size + 1, 4, none⟩ (.int .i64 r5)).drew) := ⟨HBX, HBX.drew⟩
      clear hfr hRW HBX
      go_upto_region 10 with fail
      go_region_held3 (fun W => Below w.heap.size w W ∧ W.cell? ⟨b, o + i * 2, none⟩ = some (.int .i64 p) ∧ W.cell? ⟨b, o + i * 2 + 1, none⟩ = some (.slice (some ⟨rb, ro, none⟩) m rc) ∧ W.cell? ⟨rb, ro + k * 5, none⟩ = some (.int .i64 r1) ∧ W.cell? ⟨rb, ro + k * 5 + 1, none⟩ = some (.int .i64 r2) ∧ W.cell? ⟨rb, ro + k * 5 + 2, none⟩ = some (.int .i64 r3) ∧ W.cell? ⟨rb, ro + k * 5 + 3, none⟩ = some (.int .i64 r4) ∧ W.cell? ⟨rb, ro + k * 5 + 4, none⟩ = some (.int .i64 r5))
        ((refine SO.out _ ?_; (repeat' (first | with_reducible assumption | with_reducible refine bal ?_ _ | with_reducible refine Below.setCell ?_ ?_ _ | with_reducible refine Below.drew ?_ | with_reducible exact Below.refl _ _ | with_reducible exact Nat.le_refl _ | with_reducible exact Nat.le_succ _ | with_reducible exact Below.size (by with_reducible assumption) | with_reducible refine Nat.le_succ_of_le ?_))))
        (fail)
      go_wp2_with fail
      generalize (((((w3.setCell ⟨w.heap.size + 1, 0, none⟩ (.int .i64 r1)).setCell ⟨w.heap.size + 1, 1, none⟩ (.int .i64 r2)).setCell ⟨w.heap.size + 1, 2, none⟩ (.int .i64 r3)).setCell ⟨w.heap.size + 1, 3, none⟩ (.int .i64 r4)).setCell ⟨w.heap.size + 1, 4, none⟩ (.int .i64 r5)) = X at *
      obtain ⟨y0, y1, y2, y3, y4, -⟩ := rowFive HHX.out
      first | exact bodyPost_ret (v := .tuple #[.int .i64 2, .int .i64 p, .agg #[.int .i64 r1, .int .i64 r2, .int .i64 r3, .int .i64 r4, .int .i64 r5], .nilIface]) (by simp [results, Try.results35, go_sem, y0, y1, y2, y3, y4]) rfl ⟨rfl, HBX2.out.2⟩ | exact bodyPost_ret (v := .tuple #[.int .i64 2, .int .i64 p, .agg #[.int .i64 r1, .int .i64 r2, .int .i64 r3, .int .i64 r4, .int .i64 r5], .nilIface]) (by simp [results, Try.results35, go_sem, y0, y1, y2, y3, y4]) rfl ⟨rfl, HBX2.out.1⟩
end Go.Proofs.Ytnjpjieedgmffaa.bok
