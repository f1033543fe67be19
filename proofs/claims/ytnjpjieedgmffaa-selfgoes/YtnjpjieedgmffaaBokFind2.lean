/- Contracts over this seat's translation: book.Find at a book that is right, whether the id is there or not. -/
import Derived.Test.YtnjpjieedgmffaaBokFind
namespace Go.Proofs.Ytnjpjieedgmffaa.bok
open Go.RowKit Go.Proofs.Ytnjpjieedgmffaa.spn Go.Proofs.Ytnjpjieedgmffaa.que Go.Proofs.Ytnjpjieedgmffaa.sid

set_option maxRecDepth 100000 in
set_option maxHeartbeats 2000000 in
theorem find_no (q1 q2 : Option Addr) (n1 n2 c1 c2 : Nat) (bs ss : List L) (id : Int) (hid : (Lit.int .i64 id).wf = true) (w : World) (h1 : LS w (.slice q1 n1 c1) bs) (h2 : LS w (.slice q2 n2 c2) ss) (h0 : bookE bs ss = 0) (hno1 : findE 1 bs id = 5) (hno2 : findE 2 ss id = 5) :
    Calls Try.prog 35 #[.agg #[.slice q1 n1 c1, .slice q2 n2 c2], .int .i64 id] w fun e w' => e = .returned (.tuple #[.int .i64 0, .int .i64 0, .agg #[.int .i64 0, .int .i64 0, .int .i64 0, .int .i64 0, .int .i64 0], .iface 64 (.int .i64 5)]) ∧ Below w.heap.size w w' := by
  have HCH := fun W (hW : Below w.heap.size w W) => check_any q1 q2 n1 n2 c1 c2 bs ss W (h1.below hW) (h2.below hW)
  rw [h0, errV_zero] at HCH
  have HF2 := fun W (hW : Below w.heap.size w W) => find_any 2 _ ss id W (h2.below hW) hid
  rw [show findV 2 ss id = .tuple #[.int .i64 0, .int .i64 0, .iface 64 (.int .i64 5)] from by unfold findV findP; rw [if_neg (by omega), hno2]; rfl] at HF2
  have HF1 := fun W (hW : Below w.heap.size w W) => find_any 1 _ bs id W (h1.below hW) hid
  rw [show findV 1 bs id = .tuple #[.int .i64 0, .int .i64 0, .iface 64 (.int .i64 5)] from by unfold findV findP; rw [if_neg (by omega), hno1]; rfl] at HF1
  obtain ⟨V, hV⟩ : ∃ V, V = (w.alloc (.cells #[.slice q1 n1 c1, .slice q2 n2 c2] 24)).alloc (.cells #[.int .i64 0, .int .i64 0, .int .i64 0, .int .i64 0, .int .i64 0] 28) := ⟨_, rfl⟩
  have HB : Hid (Below w.heap.size w V) := by rw [hV]; exact ((Below.refl _ _).alloc (Nat.le_refl _) _).alloc (by simp) _
  have v0 : V.cell? ⟨w.heap.size, 0, none⟩ = some (.slice q1 n1 c1) := by rw [hV]; simp [go_sem]
  have v1 : V.cell? ⟨w.heap.size, 1, none⟩ = some (.slice q2 n2 c2) := by rw [hV]; simp [go_sem]
  have hR : V.heap[w.heap.size + 1]? = some (.cells #[.int .i64 0, .int .i64 0, .int .i64 0, .int .i64 0, .int .i64 0] 28 (0, 0)) := by
    rw [hV]
    have := heap_alloc_new (w.alloc (.cells #[.slice q1 n1 c1, .slice q2 n2 c2] 24)) (.cells #[.int .i64 0, .int .i64 0, .int .i64 0, .int .i64 0, .int .i64 0] 28)
    simpa using this
  have hVs : w.heap.size + 1 < V.heap.size := (Array.getElem?_eq_some_iff.1 hR).1
  clear h1 h2 h0 hid hno1 hno2
  go_enter Try.func35, Try.ntmps35
  go_wp2_with fail
  rw [← hV]
  refine (HCH V HB.out).mono ?_
  rintro x w1 ⟨rfl, b1⟩
  have HB1 : Hid (Below w.heap.size w w1) := HB.out.trans (b1.mono HB.out.size)
  have x0 := keeps b1 v0
  have x1 := keeps b1 v1
  have hR1 : w1.heap[w.heap.size + 1]? = some (.cells #[.int .i64 0, .int .i64 0, .int .i64 0, .int .i64 0, .int .i64 0] 28 (0, 0)) := by rw [b1.block _ hVs]; exact hR
  have hs1 : w.heap.size + 1 < w1.heap.size := Nat.lt_of_lt_of_le hVs b1.size
  clear b1 HCH v0 v1 hR
  go_wp2_with fail
  go_loopg [9, 10, 11, 12, 13] 3 (fun gg s9 _ _ _ _ wr => ((s9 = .int .i64 1 ∧ 3 ≤ gg) ∨ (s9 = .int .i64 2 ∧ 2 ≤ gg) ∨ s9 = .int .i64 3) ∧ Aside (Below w1.heap.size w1 wr))
  case atStart => exact ⟨.inl ⟨rfl, Nat.le_refl _⟩, Below.refl _ _⟩
  case round =>
    obtain ⟨hor, BW⟩ := hrel
    have d0 := keeps BW.out x0
    have d1 := keeps BW.out x1
    have HW1 : Hid (Below w.heap.size w wr) := HB1.out.trans (BW.out.mono HB1.out.size)
    rcases hor with ⟨rfl, hgk⟩ | ⟨rfl, hgk⟩ | rfl
    · have hgm : 2 < gk := by omega
      go_wp2_with fail
      refine (levels_any 1 q1 q2 n1 n2 c1 c2 wr).mono ?_
      rintro x w2 ⟨rfl, b2⟩
      rw [show (if (1 : Int) = 1 then Value.slice q1 n1 c1 else .slice q2 n2 c2) = .slice q1 n1 c1 from rfl]
      have HB2 : Hid (Below wr.heap.size wr w2) := b2
      clear b2
      go_wp2_with fail
      refine (HF1 w2 (HW1.out.trans (HB2.out.mono HW1.out.size))).mono ?_
      rintro x w3 ⟨rfl, b3⟩
      have HB3 : Hid (Below w1.heap.size w1 w3) := BW.out.trans ((HB2.out.trans (b3.mono HB2.out.size)).mono BW.out.size)
      clear b3 HF1 HF2 d0 d1
      go_wp2_with fail
      go_roundg 2
      case measure => exact hgm
      case rel => exact ⟨.inr (.inl ⟨rfl, Nat.le_refl _⟩), HB3.out⟩
    · have hgm : 1 < gk := by omega
      go_wp2_with fail
      refine (levels_any 2 q1 q2 n1 n2 c1 c2 wr).mono ?_
      rintro x w2 ⟨rfl, b2⟩
      rw [show (if (2 : Int) = 1 then Value.slice q1 n1 c1 else .slice q2 n2 c2) = .slice q2 n2 c2 from rfl]
      have HB2 : Hid (Below wr.heap.size wr w2) := b2
      clear b2
      go_wp2_with fail
      refine (HF2 w2 (HW1.out.trans (HB2.out.mono HW1.out.size))).mono ?_
      rintro x w3 ⟨rfl, b3⟩
      have HB3 : Hid (Below w1.heap.size w1 w3) := BW.out.trans ((HB2.out.trans (b3.mono HB2.out.size)).mono BW.out.size)
      clear b3 HF1 HF2 d0 d1
      go_wp2_with fail
      go_roundg 1
      case measure => exact hgm
      case rel => exact ⟨.inr (.inr rfl), HB3.out⟩
    · have hRW : wr.heap[w.heap.size + 1]? = some (.cells #[.int .i64 0, .int .i64 0, .int .i64 0, .int .i64 0, .int .i64 0] 28 (0, 0)) := by rw [BW.out.block _ hs1]; exact hR1
      obtain ⟨e0, e1, e2, e3, e4, hfr⟩ := rowFive hRW
      have f0 := hfr 0
      have f1 := hfr 1
      have f2 := hfr 2
      have f3 := hfr 3
      have f4 := hfr 4
      have hBW := HW1.out
      have HHX : Hid ((((((wr.setCell ⟨w.heap.size + 1, 0, none⟩ (.int .i64 0)).setCell ⟨w.heap.size + 1, 1, none⟩ (.int .i64 0)).setCell ⟨w.heap.size + 1, 2, none⟩ (.int .i64 0)).setCell ⟨w.heap.size + 1, 3, none⟩ (.int .i64 0)).setCell ⟨w.heap.size + 1, 4, none⟩ (.int .i64 0)).heap[w.heap.size + 1]? = some (.cells #[.int .i64 0, .int .i64 0, .int .i64 0, .int .i64 0, .int .i64 0] 28 (0, 0))) := setFive hRW _ _ _ _ _
      have HBX : Hid (Below w.heap.size w (((((wr.setCell ⟨w.heap.size + 1, 0, none⟩ (.int .i64 0)).setCell ⟨w.heap.size + 1, 1, none⟩ (.int .i64 0)).setCell ⟨w.heap.size + 1, 2, none⟩ (.int .i64 0)).setCell ⟨w.heap.size + 1, 3, none⟩ (.int .i64 0)).setCell ⟨w.heap.size + 1, 4, none⟩ (.int .i64 0))) := ((((hBW.setCell (Nat.le_succ _) _).setCell (Nat.le_succ _) _).setCell (Nat.le_succ _) _).setCell (Nat.le_succ _) _).setCell (Nat.le_succ _) _
      clear hfr hRW HF1 HF2 d0 d1
      go_wp2_with fail
      generalize (((((wr.setCell ⟨w.heap.size + 1, 0, none⟩ (.int .i64 0)).setCell ⟨w.heap.size + 1, 1, none⟩ (.int .i64 0)).setCell ⟨w.heap.size + 1, 2, none⟩ (.int .i64 0)).setCell ⟨w.heap.size + 1, 3, none⟩ (.int .i64 0)).setCell ⟨w.heap.size + 1, 4, none⟩ (.int .i64 0)) = X at *
      obtain ⟨y0, y1, y2, y3, y4, -⟩ := rowFive HHX.out
      exact bodyPost_ret (v := .tuple #[.int .i64 0, .int .i64 0, .agg #[.int .i64 0, .int .i64 0, .int .i64 0, .int .i64 0, .int .i64 0], .iface 64 (.int .i64 5)]) (by simp [results, Try.results35, go_sem, y0, y1, y2, y3, y4]) rfl ⟨rfl, HBX.out⟩

/-- Is an id in a book? -/
def inBook (bs ss : List L) (id : Int) : Bool := decide (id ∈ ids bs ∨ id ∈ ids ss)
theorem findE_in {s : Int} {ls : List L} {id : Int} (h0 : schk s ls = 0) (h : id ∈ ids ls) : findE s ls id = 0 := by
  have h2 := id_ids.1 h
  unfold findE
  rw [if_pos h0, if_pos (by
    cases hl : lastAt (flatP 0 ls) id with
    | none => exact absurd hl h2
    | some t => rfl)]
theorem findE_out {s : Int} {ls : List L} {id : Int} (h0 : schk s ls = 0) (h : ¬ id ∈ ids ls) : findE s ls id = 5 := by
  have h2 : lastAt (flatP 0 ls) id = none := Classical.byContradiction fun hn => h (id_ids.2 hn)
  unfold findE
  rw [if_pos h0, h2]
  rfl
theorem findV_in {s : Int} {ls : List L} {id : Int} (hf : findE s ls id = 0) : ∃ i k : Nat, ∃ hi : i < ls.length, k < ls[i].rests.length ∧ findV s ls id = .tuple #[.int .i64 i, .int .i64 k, .nilIface] := by
  obtain ⟨-, i, k, hi, hk, -, hp⟩ := find_spot hf
  exact ⟨i, k, hi, hk, by unfold findV; rw [hp, hf]; rfl⟩
theorem find_is (q1 q2 : Option Addr) (n1 n2 c1 c2 : Nat) (bs ss : List L) (id : Int) (hid : (Lit.int .i64 id).wf = true) (w : World) (h1 : LS w (.slice q1 n1 c1) bs) (h2 : LS w (.slice q2 n2 c2) ss) (h0 : bookE bs ss = 0) :
    Calls Try.prog 35 #[.agg #[.slice q1 n1 c1, .slice q2 n2 c2], .int .i64 id] w fun e w' => ∃ a b r1 r2 r3 r4 r5, e = .returned (.tuple #[.int .i64 a, .int .i64 b, .agg #[.int .i64 r1, .int .i64 r2, .int .i64 r3, .int .i64 r4, .int .i64 r5], errV (if inBook bs ss id = true then 0 else 5)]) ∧ Below w.heap.size w w' := by
  obtain ⟨ee1, ee2, -⟩ := book_zero h0
  unfold inBook
  by_cases hb : id ∈ ids bs
  · rw [if_pos (by simp [hb])]
    obtain ⟨i, k, hi, hk, hv⟩ := findV_in (findE_in ee1 hb)
    refine (find_in1 q1 q2 n1 n2 c1 c2 bs ss id hid i k w h1 h2 h0 hi hk hv).mono ?_
    rintro e w' ⟨rfl, hB⟩
    exact ⟨_, _, _, _, _, _, _, rfl, hB⟩
  · by_cases hs : id ∈ ids ss
    · rw [if_pos (by simp [hs])]
      obtain ⟨i, k, hi, hk, hv⟩ := findV_in (findE_in ee2 hs)
      refine (find_in2 q1 q2 n1 n2 c1 c2 bs ss id hid i k w h1 h2 h0 (findE_out ee1 hb) hi hk hv).mono ?_
      rintro e w' ⟨rfl, hB⟩
      exact ⟨_, _, _, _, _, _, _, rfl, hB⟩
    · rw [if_neg (by simp [hb, hs])]
      refine (find_no q1 q2 n1 n2 c1 c2 bs ss id hid w h1 h2 h0 (findE_out ee1 hb) (findE_out ee2 hs)).mono ?_
      rintro e w' ⟨rfl, hB⟩
      exact ⟨_, _, _, _, _, _, _, rfl, hB⟩
end Go.Proofs.Ytnjpjieedgmffaa.bok
