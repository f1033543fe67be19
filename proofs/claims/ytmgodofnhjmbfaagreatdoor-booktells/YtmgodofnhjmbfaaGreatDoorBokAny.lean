/- Contracts over this seat's translation: book.Find at a book that is right, whether the id is there or not. Contracts over this seat's translation: book.Find, Cancel, Top, Count where the book is wrong, or the id is not there. -/
import Derived.Test.YtmgodofnhjmbfaaGreatDoorBokFind
namespace Go.Proofs.YtmgodofnhjmbfaaGreatDoor.bok
open Go.RowKit Go.Proofs.YtmgodofnhjmbfaaGreatDoor.spn Go.Proofs.YtmgodofnhjmbfaaGreatDoor.que Go.Proofs.YtmgodofnhjmbfaaGreatDoor.sid

set_option maxRecDepth 100000 in
set_option maxHeartbeats 2000000 in
theorem find_no (q1 q2 : Option Addr) (n1 n2 c1 c2 : Nat) (bs ss : List L) (id : Int) (hid : (Lit.int .i64 id).wf = true) (w : World) (h1 : LS w (.slice q1 n1 c1) bs) (h2 : LS w (.slice q2 n2 c2) ss) (h0 : bookE bs ss = 0) (hno1 : findE 1 bs id = 5) (hno2 : findE 2 ss id = 5) :
    Calls Tryz.prog 21 #[.agg #[.slice q1 n1 c1, .slice q2 n2 c2], .int .i64 id] w fun e w' => e = .returned (.tuple #[.int .i64 0, .int .i64 0, .agg #[.int .i64 0, .int .i64 0, .int .i64 0, .int .i64 0, .int .i64 0], .iface 60 (.int .i64 5)]) ∧ Below w.heap.size w w' := by
  have HCH := fun W (hW : Below w.heap.size w W) => check_any q1 q2 n1 n2 c1 c2 bs ss W (h1.below hW) (h2.below hW)
  rw [h0, errV_zero] at HCH
  have HF2 := fun W (hW : Below w.heap.size w W) => find_any 2 _ ss id W (h2.below hW) hid
  rw [show findV 2 ss id = .tuple #[.int .i64 0, .int .i64 0, .iface 60 (.int .i64 5)] from by unfold findV findP; rw [if_neg (by omega), hno2]; rfl] at HF2
  have HF1 := fun W (hW : Below w.heap.size w W) => find_any 1 _ bs id W (h1.below hW) hid
  rw [show findV 1 bs id = .tuple #[.int .i64 0, .int .i64 0, .iface 60 (.int .i64 5)] from by unfold findV findP; rw [if_neg (by omega), hno1]; rfl] at HF1
  obtain ⟨V, hV⟩ : ∃ V, V = (w.alloc (.cells #[.slice q1 n1 c1, .slice q2 n2 c2] 24)).alloc (.cells #[.int .i64 0, .int .i64 0, .int .i64 0, .int .i64 0, .int .i64 0] 26) := ⟨_, rfl⟩
  have HB : Hid (Below w.heap.size w V) := by rw [hV]; exact ((Below.refl _ _).alloc (Nat.le_refl _) _).alloc (by simp) _
  have v0 : V.cell? ⟨w.heap.size, 0, none⟩ = some (.slice q1 n1 c1) := by rw [hV]; simp [go_sem]
  have v1 : V.cell? ⟨w.heap.size, 1, none⟩ = some (.slice q2 n2 c2) := by rw [hV]; simp [go_sem]
  have hR : V.heap[w.heap.size + 1]? = some (.cells #[.int .i64 0, .int .i64 0, .int .i64 0, .int .i64 0, .int .i64 0] 26 (0, 0)) := by
    rw [hV]
    have := heap_alloc_new (w.alloc (.cells #[.slice q1 n1 c1, .slice q2 n2 c2] 24)) (.cells #[.int .i64 0, .int .i64 0, .int .i64 0, .int .i64 0, .int .i64 0] 26)
    simpa using this
  have hVs : w.heap.size + 1 < V.heap.size := (Array.getElem?_eq_some_iff.1 hR).1
  clear h1 h2 h0 hid hno1 hno2
  go_enter Tryz.func21, Tryz.ntmps21
  go_wp2_with fail
  rw [← hV]
  refine (HCH V HB.out).mono ?_
  rintro x w1 ⟨rfl, b1⟩
  have HB1 : Hid (Below w.heap.size w w1) := HB.out.trans (b1.mono HB.out.size)
  have x0 := keeps b1 v0
  have x1 := keeps b1 v1
  have hR1 : w1.heap[w.heap.size + 1]? = some (.cells #[.int .i64 0, .int .i64 0, .int .i64 0, .int .i64 0, .int .i64 0] 26 (0, 0)) := by rw [b1.block _ hVs]; exact hR
  have hs1 : w.heap.size + 1 < w1.heap.size := Nat.lt_of_lt_of_le hVs b1.size
  clear b1 HCH v0 v1 hR
  go_wp2_with fail
  go_loopg [9, 10, 11, 12, 13] 3 (fun gg s9 _ _ _ _ wr => ((s9 = .int .i64 1 ∧ 3 ≤ gg) ∨ (s9 = .int .i64 2 ∧ 2 ≤ gg) ∨ s9 = .int .i64 3) ∧ Aside (Below w1.heap.size w1 wr))
  case atStart => exact ⟨.inl ⟨rfl, Nat.le_refl _⟩, Below.refl _ _⟩
  case round =>
    obtain ⟨hor, BW⟩ := hrel
    have d0 := keeps BW.out x0
    have d1 := keeps BW.out x1
    have HW1 : Hid (Below w.heap.size w wr) := HB1.out.trans (BW.out.mono HB1.out.size)
    rcases hor with ⟨rfl, hgk⟩ | ⟨rfl, hgk⟩ | rfl
    · have hgm : 2 < gk := by omega
      go_wp2_with fail
      refine (levels_any 1 q1 q2 n1 n2 c1 c2 wr).mono ?_
      rintro x w2 ⟨rfl, b2⟩
      rw [show (if (1 : Int) = 1 then Value.slice q1 n1 c1 else .slice q2 n2 c2) = .slice q1 n1 c1 from rfl]
      have HB2 : Hid (Below wr.heap.size wr w2) := b2
      clear b2
      go_wp2_with fail
      refine (HF1 w2 (HW1.out.trans (HB2.out.mono HW1.out.size))).mono ?_
      rintro x w3 ⟨rfl, b3⟩
      have HB3 : Hid (Below w1.heap.size w1 w3) := BW.out.trans ((HB2.out.trans (b3.mono HB2.out.size)).mono BW.out.size)
      clear b3 HF1 HF2 d0 d1
      go_wp2_with fail
      go_roundg 2
      case measure => exact hgm
      case rel => exact ⟨.inr (.inl ⟨rfl, Nat.le_refl _⟩), HB3.out⟩
    · have hgm : 1 < gk := by omega
      go_wp2_with fail
      refine (levels_any 2 q1 q2 n1 n2 c1 c2 wr).mono ?_
      rintro x w2 ⟨rfl, b2⟩
      rw [show (if (2 : Int) = 1 then Value.slice q1 n1 c1 else .slice q2 n2 c2) = .slice q2 n2 c2 from rfl]
      have HB2 : Hid (Below wr.heap.size wr w2) := b2
      clear b2
      go_wp2_with fail
      refine (HF2 w2 (HW1.out.trans (HB2.out.mono HW1.out.size))).mono ?_
      rintro x w3 ⟨rfl, b3⟩
      have HB3 : Hid (Below w1.heap.size w1 w3) := BW.out.trans ((HB2.out.trans (b3.mono HB2.out.size)).mono BW.out.size)
      clear b3 HF1 HF2 d0 d1
      go_wp2_with fail
      go_roundg 1
      case measure => exact hgm
      case rel => exact ⟨.inr (.inr rfl), HB3.out⟩
    · have hRW : wr.heap[w.heap.size + 1]? = some (.cells #[.int .i64 0, .int .i64 0, .int .i64 0, .int .i64 0, .int .i64 0] 26 (0, 0)) := by rw [BW.out.block _ hs1]; exact hR1
      obtain ⟨e0, e1, e2, e3, e4, hfr⟩ := rowFive hRW
      have f0 := hfr 0
      have f1 := hfr 1
      have f2 := hfr 2
      have f3 := hfr 3
      have f4 := hfr 4
      have hBW := HW1.out
      have HHX : Hid ((((((wr.setCell ⟨w.heap.size + 1, 0, none⟩ (.int .i64 0)).setCell ⟨w.heap.size + 1, 1, none⟩ (.int .i64 0)).setCell ⟨w.heap.size + 1, 2, none⟩ (.int .i64 0)).setCell ⟨w.heap.size + 1, 3, none⟩ (.int .i64 0)).setCell ⟨w.heap.size + 1, 4, none⟩ (.int .i64 0)).heap[w.heap.size + 1]? = some (.cells #[.int .i64 0, .int .i64 0, .int .i64 0, .int .i64 0, .int .i64 0] 26 (0, 0))) := setFive hRW _ _ _ _ _
      have HBX : Hid (Below w.heap.size w (((((wr.setCell ⟨w.heap.size + 1, 0, none⟩ (.int .i64 0)).setCell ⟨w.heap.size + 1, 1, none⟩ (.int .i64 0)).setCell ⟨w.heap.size + 1, 2, none⟩ (.int .i64 0)).setCell ⟨w.heap.size + 1, 3, none⟩ (.int .i64 0)).setCell ⟨w.heap.size + 1, 4, none⟩ (.int .i64 0))) := ((((hBW.setCell (Nat.le_succ _) _).setCell (Nat.le_succ _) _).setCell (Nat.le_succ _) _).setCell (Nat.le_succ _) _).setCell (Nat.le_succ _) _
      clear hfr hRW HF1 HF2 d0 d1
      go_wp2_with fail
      generalize (((((wr.setCell ⟨w.heap.size + 1, 0, none⟩ (.int .i64 0)).setCell ⟨w.heap.size + 1, 1, none⟩ (.int .i64 0)).setCell ⟨w.heap.size + 1, 2, none⟩ (.int .i64 0)).setCell ⟨w.heap.size + 1, 3, none⟩ (.int .i64 0)).setCell ⟨w.heap.size + 1, 4, none⟩ (.int .i64 0)) = X at *
      obtain ⟨y0, y1, y2, y3, y4, -⟩ := rowFive HHX.out
      exact bodyPost_ret (v := .tuple #[.int .i64 0, .int .i64 0, .agg #[.int .i64 0, .int .i64 0, .int .i64 0, .int .i64 0, .int .i64 0], .iface 60 (.int .i64 5)]) (by simp [results, Tryz.results21, go_sem, y0, y1, y2, y3, y4]) rfl ⟨rfl, HBX.out⟩

/-- Is an id in a book? -/
def inBook (bs ss : List L) (id : Int) : Bool := decide (id ∈ ids bs ∨ id ∈ ids ss)
theorem findE_in {s : Int} {ls : List L} {id : Int} (h0 : schk s ls = 0) (h : id ∈ ids ls) : findE s ls id = 0 := by
  have h2 := id_ids.1 h
  unfold findE
  rw [if_pos h0, if_pos (by
    cases hl : lastAt (flatP 0 ls) id with
    | none => exact absurd hl h2
    | some t => rfl)]
theorem findE_out {s : Int} {ls : List L} {id : Int} (h0 : schk s ls = 0) (h : ¬ id ∈ ids ls) : findE s ls id = 5 := by
  have h2 : lastAt (flatP 0 ls) id = none := Classical.byContradiction fun hn => h (id_ids.2 hn)
  unfold findE
  rw [if_pos h0, h2]
  rfl
theorem findV_in {s : Int} {ls : List L} {id : Int} (hf : findE s ls id = 0) : ∃ i k : Nat, ∃ hi : i < ls.length, k < ls[i].rests.length ∧ findV s ls id = .tuple #[.int .i64 i, .int .i64 k, .nilIface] := by
  obtain ⟨-, i, k, hi, hk, -, hp⟩ := find_spot hf
  exact ⟨i, k, hi, hk, by unfold findV; rw [hp, hf]; rfl⟩
theorem find_is (q1 q2 : Option Addr) (n1 n2 c1 c2 : Nat) (bs ss : List L) (id : Int) (hid : (Lit.int .i64 id).wf = true) (w : World) (h1 : LS w (.slice q1 n1 c1) bs) (h2 : LS w (.slice q2 n2 c2) ss) (h0 : bookE bs ss = 0) :
    Calls Tryz.prog 21 #[.agg #[.slice q1 n1 c1, .slice q2 n2 c2], .int .i64 id] w fun e w' => ∃ a b r1 r2 r3 r4 r5, e = .returned (.tuple #[.int .i64 a, .int .i64 b, .agg #[.int .i64 r1, .int .i64 r2, .int .i64 r3, .int .i64 r4, .int .i64 r5], errV (if inBook bs ss id = true then 0 else 5)]) ∧ Below w.heap.size w w' := by
  obtain ⟨ee1, ee2, -⟩ := book_zero h0
  unfold inBook
  by_cases hb : id ∈ ids bs
  · rw [if_pos (by simp [hb])]
    obtain ⟨i, k, hi, hk, hv⟩ := findV_in (findE_in ee1 hb)
    refine (find_in1 q1 q2 n1 n2 c1 c2 bs ss id hid i k w h1 h2 h0 hi hk hv).mono ?_
    rintro e w' ⟨rfl, hB⟩
    exact ⟨_, _, _, _, _, _, _, rfl, hB⟩
  · by_cases hs : id ∈ ids ss
    · rw [if_pos (by simp [hs])]
      obtain ⟨i, k, hi, hk, hv⟩ := findV_in (findE_in ee2 hs)
      refine (find_in2 q1 q2 n1 n2 c1 c2 bs ss id hid i k w h1 h2 h0 (findE_out ee1 hb) hi hk hv).mono ?_
      rintro e w' ⟨rfl, hB⟩
      exact ⟨_, _, _, _, _, _, _, rfl, hB⟩
    · rw [if_neg (by simp [hb, hs])]
      refine (find_no q1 q2 n1 n2 c1 c2 bs ss id hid w h1 h2 h0 (findE_out ee1 hb) (findE_out ee2 hs)).mono ?_
      rintro e w' ⟨rfl, hB⟩
      exact ⟨_, _, _, _, _, _, _, rfl, hB⟩
end Go.Proofs.YtmgodofnhjmbfaaGreatDoor.bok
namespace Go.Proofs.YtmgodofnhjmbfaaGreatDoor.bok
open Go.RowKit Go.Proofs.YtmgodofnhjmbfaaGreatDoor.spn Go.Proofs.YtmgodofnhjmbfaaGreatDoor.que Go.Proofs.YtmgodofnhjmbfaaGreatDoor.sid

theorem hidB {P : Prop} (h : P) : Hid P := h
set_option maxRecDepth 100000 in
set_option maxHeartbeats 2000000 in
theorem find_bad (q1 q2 : Option Addr) (n1 n2 c1 c2 : Nat) (bs ss : List L) (id : Int) (w : World) (h1 : LS w (.slice q1 n1 c1) bs) (h2 : LS w (.slice q2 n2 c2) ss) (h0 : ¬ bookE bs ss = 0) :
    Calls Tryz.prog 21 #[.agg #[.slice q1 n1 c1, .slice q2 n2 c2], .int .i64 id] w fun e w' => e = .returned (.tuple #[.int .i64 0, .int .i64 0, .agg #[.int .i64 0, .int .i64 0, .int .i64 0, .int .i64 0, .int .i64 0], .iface 60 (.int .i64 (bookE bs ss))]) ∧ Below w.heap.size w w' := by
  have HCH := fun W (hW : Below w.heap.size w W) => check_any q1 q2 n1 n2 c1 c2 bs ss W (h1.below hW) (h2.below hW)
  rw [errV_of h0] at HCH
  generalize bookE bs ss = K at *
  obtain ⟨V, hV⟩ : ∃ V, V = (w.alloc (.cells #[.slice q1 n1 c1, .slice q2 n2 c2] 24)).alloc (.cells #[.int .i64 0, .int .i64 0, .int .i64 0, .int .i64 0, .int .i64 0] 26) := ⟨_, rfl⟩
  have HB : Hid (Below w.heap.size w V) := by rw [hV]; exact ((Below.refl _ _).alloc (Nat.le_refl _) _).alloc (by simp) _
  have v0 : V.cell? ⟨w.heap.size, 0, none⟩ = some (.slice q1 n1 c1) := by rw [hV]; simp [go_sem]
  have v1 : V.cell? ⟨w.heap.size, 1, none⟩ = some (.slice q2 n2 c2) := by rw [hV]; simp [go_sem]
  have hR : V.heap[w.heap.size + 1]? = some (.cells #[.int .i64 0, .int .i64 0, .int .i64 0, .int .i64 0, .int .i64 0] 26 (0, 0)) := by
    rw [hV]
    have := heap_alloc_new (w.alloc (.cells #[.slice q1 n1 c1, .slice q2 n2 c2] 24)) (.cells #[.int .i64 0, .int .i64 0, .int .i64 0, .int .i64 0, .int .i64 0] 26)
    simpa using this
  have hVs : w.heap.size + 1 < V.heap.size := (Array.getElem?_eq_some_iff.1 hR).1
  clear h1 h2
  go_enter Tryz.func21, Tryz.ntmps21
  go_wp2_with fail
  rw [← hV]
  refine (HCH V HB.out).mono ?_
  rintro x w1 ⟨rfl, b1⟩
  have hB1 := HB.out.trans (b1.mono HB.out.size)
  have hR1 : w1.heap[w.heap.size + 1]? = some (.cells #[.int .i64 0, .int .i64 0, .int .i64 0, .int .i64 0, .int .i64 0] 26 (0, 0)) := by rw [b1.block _ hVs]; exact hR
  obtain ⟨e0, e1, e2, e3, e4, hfr⟩ := rowFive hR1
  have f0 := hfr 0
  have f1 := hfr 1
  have f2 := hfr 2
  have f3 := hfr 3
  have f4 := hfr 4
  have HHX := hidB (setFive hR1 (.int .i64 0) (.int .i64 0) (.int .i64 0) (.int .i64 0) (.int .i64 0))
  have hg := grFive w1 (w.heap.size + 1) (.int .i64 0) (.int .i64 0) (.int .i64 0) (.int .i64 0) (.int .i64 0)
  have HBX := hidB (hB1.grown hg hB1.size (fun k hk => by cases hk; omega))
  clear b1 HCH v0 v1 hR hV hfr hR1 hg hB1
  go_wp2_with fail
  generalize (((((w1.setCell ⟨w.heap.size + 1, 0, none⟩ (.int .i64 0)).setCell ⟨w.heap.size + 1, 1, none⟩ (.int .i64 0)).setCell ⟨w.heap.size + 1, 2, none⟩ (.int .i64 0)).setCell ⟨w.heap.size + 1, 3, none⟩ (.int .i64 0)).setCell ⟨w.heap.size + 1, 4, none⟩ (.int .i64 0)) = X at *
  obtain ⟨y0, y1, y2, y3, y4, -⟩ := rowFive HHX.out
  exact bodyPost_ret (v := .tuple #[.int .i64 0, .int .i64 0, .agg #[.int .i64 0, .int .i64 0, .int .i64 0, .int .i64 0, .int .i64 0], .iface 60 (.int .i64 K)]) (by simp [results, Tryz.results21, go_sem, y0, y1, y2, y3, y4]) rfl ⟨rfl, HBX.out⟩
set_option maxRecDepth 100000 in
set_option maxHeartbeats 2000000 in
theorem cancel_out (q1 q2 : Option Addr) (n1 n2 c1 c2 : Nat) (id K : Int) (w : World) (HFI : ∀ W, Below w.heap.size w W → Calls Tryz.prog 21 #[.agg #[.slice q1 n1 c1, .slice q2 n2 c2], .int .i64 id] W fun e w' => e = .returned (.tuple #[.int .i64 0, .int .i64 0, .agg #[.int .i64 0, .int .i64 0, .int .i64 0, .int .i64 0, .int .i64 0], .iface 60 (.int .i64 K)]) ∧ Below W.heap.size W w') :
    Calls Tryz.prog 20 #[.agg #[.slice q1 n1 c1, .slice q2 n2 c2], .int .i64 id] w fun e w' => e = .returned (.tuple #[.agg #[.slice none 0 0, .slice none 0 0], .agg #[.int .i64 0, .int .i64 0, .int .i64 0, .int .i64 0, .int .i64 0], .iface 60 (.int .i64 K)]) ∧ Below w.heap.size w w' := by
  obtain ⟨V1, hV1⟩ : ∃ V1, V1 = w.alloc (.cells #[.slice q1 n1 c1, .slice q2 n2 c2] 24) := ⟨_, rfl⟩
  obtain ⟨V2, hV2⟩ : ∃ V2, V2 = V1.alloc (.cells #[.slice none 0 0, .slice none 0 0] 24) := ⟨_, rfl⟩
  obtain ⟨V, hV⟩ : ∃ V, V = V2.alloc (.cells #[.int .i64 0, .int .i64 0, .int .i64 0, .int .i64 0, .int .i64 0] 26) := ⟨_, rfl⟩
  have hs1 : V1.heap.size = w.heap.size + 1 := by rw [hV1]; simp
  have hs2 : V2.heap.size = w.heap.size + 2 := by rw [hV2]; simp [hs1]
  have hb1 : Below w.heap.size w V1 := by rw [hV1]; exact (Below.refl _ _).alloc (Nat.le_refl _) _
  have hb2 : Below V1.heap.size V1 V2 := by rw [hV2]; exact (Below.refl _ _).alloc (Nat.le_refl _) _
  have hb3 : Below V2.heap.size V2 V := by rw [hV]; exact (Below.refl _ _).alloc (Nat.le_refl _) _
  have HB : Hid (Below w.heap.size w V) := by
    have h := hb1.trans (hb2.mono hb1.size)
    exact h.trans (hb3.mono h.size)
  have hB0 : V.heap[w.heap.size]? = some (.cells #[.slice q1 n1 c1, .slice q2 n2 c2] 24 (0, 0)) := by rw [hb3.block _ (by omega), hb2.block _ (by omega), hV1]; exact heap_alloc_new w _
  have hP0 : V.heap[w.heap.size + 1]? = some (.cells #[.slice none 0 0, .slice none 0 0] 24 (0, 0)) := by rw [hb3.block _ (by omega), ← hs1, hV2]; exact heap_alloc_new V1 _
  have hQ0 : V.heap[w.heap.size + 2]? = some (.cells #[.int .i64 0, .int .i64 0, .int .i64 0, .int .i64 0, .int .i64 0] 26 (0, 0)) := by rw [← hs2, hV]; exact heap_alloc_new V2 _
  obtain ⟨P, hP⟩ : ∃ P, P = w.heap.size + 1 := ⟨_, rfl⟩
  obtain ⟨Q, hQ⟩ : ∃ Q, Q = w.heap.size + 2 := ⟨_, rfl⟩
  rw [← hP] at hP0
  rw [← hQ] at hQ0
  have HPQ := hidB (show P = w.heap.size + 1 ∧ Q = w.heap.size + 2 from ⟨hP, hQ⟩)
  have HFI2 := hidB HFI
  obtain ⟨g0, g1, -⟩ := rowTwo hB0
  clear hs1 hs2 hb1 hb2 hb3 hB0 HFI
  go_enter Tryz.func20, Tryz.ntmps20
  go_wp2_with fail
  rw [← hV1, ← hV2, ← hV]
  simp only [← hQ]
  simp only [← hP]
  clear hV1 hV2 hV hP hQ
  refine (HFI2.out V HB.out).mono ?_
  rintro x w0 ⟨rfl, b1⟩
  obtain ⟨w1, hw1⟩ : ∃ W, W = w0.alloc (.cells #[.int .i64 0, .int .i64 0, .int .i64 0, .int .i64 0, .int .i64 0] 26) := ⟨_, rfl⟩
  have b2 : Below w0.heap.size w0 w1 := by rw [hw1]; exact (Below.refl _ _).alloc (Nat.le_refl _) _
  have b3 := b1.trans (b2.mono b1.size)
  have HB1 := hidB (HB.out.trans (b3.mono HB.out.size))
  have HP1 := hidB ((b3.block P (Array.getElem?_eq_some_iff.1 hP0).1).trans hP0)
  have HQ1 := hidB ((b3.block Q (Array.getElem?_eq_some_iff.1 hQ0).1).trans hQ0)
  clear b1 b2 b3 hP0 hQ0 HFI2 g0 g1
  go_upto_if 23 with fail
  rw [← hw1]
  clear hw1
  have hB1 := HB1.out
  have hP1 := HP1.out
  have hQ1 := HQ1.out
  have hgP := grTwo w1 P (.slice none 0 0) (.slice none 0 0)
  have hP2 := setTwo hP1 (.slice none 0 0) (.slice none 0 0)
  have hQ2 := (hgP.block Q (Array.getElem?_eq_some_iff.1 hQ1).1 (fun e => by cases e; have := HPQ.out; omega)).trans hQ1
  have hB2 := hB1.grown hgP hB1.size (fun k hk => by cases hk; have := HPQ.out; omega)
  have hgQ := grFive ((w1.setCell ⟨P, 0, none⟩ (.slice none 0 0)).setCell ⟨P, 1, none⟩ (.slice none 0 0)) Q (.int .i64 0) (.int .i64 0) (.int .i64 0) (.int .i64 0) (.int .i64 0)
  have HQX := hidB (setFive hQ2 (.int .i64 0) (.int .i64 0) (.int .i64 0) (.int .i64 0) (.int .i64 0))
  have HPX := hidB ((hgQ.block P (Array.getElem?_eq_some_iff.1 hP2).1 (fun e => by cases e; have := HPQ.out; omega)).trans hP2)
  have HBX := hidB (hB2.grown hgQ hB2.size (fun k hk => by cases hk; have := HPQ.out; omega))
  obtain ⟨p0, p1, pf⟩ := rowTwo hP1
  have pf0 := pf 0
  have pf1 := pf 1
  obtain ⟨q0, q1', q2', q3, q4, qf⟩ := rowFive hQ2
  have qf0 := qf 0
  have qf1 := qf 1
  have qf2 := qf 2
  have qf3 := qf 3
  have qf4 := qf 4
  clear hB1 hP1 hQ1 hgP hP2 hQ2 hB2 hgQ pf qf HB1 HP1 HQ1
  go_wp2_with fail
  generalize ((((((w1.setCell ⟨P, 0, none⟩ (.slice none 0 0)).setCell ⟨P, 1, none⟩ (.slice none 0 0)).setCell ⟨Q, 0, none⟩ (.int .i64 0)).setCell ⟨Q, 1, none⟩ (.int .i64 0)).setCell ⟨Q, 2, none⟩ (.int .i64 0)).setCell ⟨Q, 3, none⟩ (.int .i64 0)).setCell ⟨Q, 4, none⟩ (.int .i64 0) = X at *
  obtain ⟨a0, a1, -⟩ := rowTwo HPX.out
  obtain ⟨y0, y1, y2, y3, y4, -⟩ := rowFive HQX.out
  exact bodyPost_ret (v := .tuple #[.agg #[.slice none 0 0, .slice none 0 0], .agg #[.int .i64 0, .int .i64 0, .int .i64 0, .int .i64 0, .int .i64 0], .iface 60 (.int .i64 K)]) (by simp [results, Tryz.results20, go_sem, a0, a1, y0, y1, y2, y3, y4]) rfl ⟨rfl, HBX.out⟩
end Go.Proofs.YtmgodofnhjmbfaaGreatDoor.bok
