/- Contracts over this seat's translation: the document's Find. An id is where the document finds it. -/
import Derived.Test.YtalhdjlopkdnbaaGreatDoorBokRef1
import Derived.Test.YtalhdjlopkdnbaaGreatDoorSidRef5
namespace Go.Proofs.YtalhdjlopkdnbaaGreatDoor.bok
open Go.RowKit Go.Proofs.YtalhdjlopkdnbaaGreatDoor.spn Go.Proofs.YtalhdjlopkdnbaaGreatDoor.que Go.Proofs.YtalhdjlopkdnbaaGreatDoor.sid

/-- Where the document finds an id: the side, the level, the place; 0: nowhere. -/
def rfindP (bs ss : List L) (id : Int) : Int × Int × Int :=
  if 0 ≤ (atGo id 0 bs).1 then (1, (atGo id 0 bs).1, (atGo id 0 bs).2) else if 0 ≤ (atGo id 0 ss).1 then (2, (atGo id 0 ss).1, (atGo id 0 ss).2) else (0, 0, 0)

set_option maxRecDepth 100000 in
set_option maxHeartbeats 2000000 in
theorem rfind_any (q1 q2 : Option Addr) (n1 n2 c1 c2 : Nat) (bs ss : List L) (id : Int) (w : World) (h1 : LS w (.slice q1 n1 c1) bs) (h2 : LS w (.slice q2 n2 c2) ss) :
    Calls Tryz.prog 19 #[.agg #[.slice q1 n1 c1, .slice q2 n2 c2], .int .i64 id] w fun e w' => e = .returned (.tuple #[.int .i64 (rfindP bs ss id).1, .int .i64 (rfindP bs ss id).2.1, .int .i64 (rfindP bs ss id).2.2]) ∧ Below w.heap.size w w' := by
  have hP : rfindP bs ss id = if 0 ≤ (atGo id 0 bs).1 then (1, (atGo id 0 bs).1, (atGo id 0 bs).2) else if 0 ≤ (atGo id 0 ss).1 then (2, (atGo id 0 ss).1, (atGo id 0 ss).2) else (0, 0, 0) := rfl
  have HA1 : Hid (∀ W, Below w.heap.size w W → Calls Tryz.prog 55 #[.slice q1 n1 c1, .int .i64 id] W fun e w' => e = .returned (.tuple #[.int .i64 (atGo id 0 bs).1, .int .i64 (atGo id 0 bs).2]) ∧ Below W.heap.size W w') := fun W hW => (rat_any _ bs id W (h1.below hW)).mono fun e w' hh => ⟨hh.1, by obtain ⟨k, hk⟩ := hh.2; rw [hk]; exact Go.Proofs.YtalhdjlopkdnbaaGreatDoor.sid.below_drewN' W k⟩
  have HA2 : Hid (∀ W, Below w.heap.size w W → Calls Tryz.prog 55 #[.slice q2 n2 c2, .int .i64 id] W fun e w' => e = .returned (.tuple #[.int .i64 (atGo id 0 ss).1, .int .i64 (atGo id 0 ss).2]) ∧ Below W.heap.size W w') := fun W hW => (rat_any _ ss id W (h2.below hW)).mono fun e w' hh => ⟨hh.1, by obtain ⟨k, hk⟩ := hh.2; rw [hk]; exact Go.Proofs.YtalhdjlopkdnbaaGreatDoor.sid.below_drewN' W k⟩
  obtain ⟨V, hV⟩ : ∃ V, V = w.alloc (.cells #[.slice q1 n1 c1, .slice q2 n2 c2] 24) := ⟨_, rfl⟩
  have hR : V.heap[w.heap.size]? = some (.cells #[.slice q1 n1 c1, .slice q2 n2 c2] 24 (0, 0)) := by rw [hV]; exact heap_alloc_new w _
  have v0 : V.cell? ⟨w.heap.size, 0, none⟩ = some (.slice q1 n1 c1) := by simp [World.cell?, hR]
  have v1 : V.cell? ⟨w.heap.size, 1, none⟩ = some (.slice q2 n2 c2) := by simp [World.cell?, hR]
  have hVs : w.heap.size < V.heap.size := (Array.getElem?_eq_some_iff.1 hR).1
  have HB : Hid (Below w.heap.size w V) := by rw [hV]; exact (Below.refl _ _).alloc (Nat.le_refl _) _
  clear h1 h2 hR
  generalize rfindP bs ss id = P at *
  generalize atGo id 0 bs = A1 at *
  generalize atGo id 0 ss = A2 at *
  obtain ⟨p1, p2, p3⟩ := P
  obtain ⟨i1, k1⟩ := A1
  obtain ⟨i2, k2⟩ := A2
  have HP := hid_of hP
  clear hP
  simp only [] at HA1 HA2 HP ⊢
  have HOF1 : Hid (∀ W, Calls Tryz.prog 20 #[.agg #[.slice q1 n1 c1, .slice q2 n2 c2], .int .i64 1] W fun e w' => e = .returned (.slice q1 n1 c1) ∧ Below W.heap.size W w') := fun W => rof_any 1 q1 q2 n1 n2 c1 c2 W
  have HOF2 : Hid (∀ W, Calls Tryz.prog 20 #[.agg #[.slice q1 n1 c1, .slice q2 n2 c2], .int .i64 2] W fun e w' => e = .returned (.slice q2 n2 c2) ∧ Below W.heap.size W w') := fun W => rof_any 2 q1 q2 n1 n2 c1 c2 W
  go_enter Tryz.func19, Tryz.ntmps19
  go_wp2_with fail
  rw [← hV]
  clear hV
  go_loopg [7, 8, 9] 3 (fun gg s7 _ _ wr => ((s7 = .int .i64 1 ∧ 3 ≤ gg) ∨ (s7 = .int .i64 2 ∧ 2 ≤ gg ∧ Aside (i1 < 0)) ∨ (s7 = .int .i64 3 ∧ Aside (i1 < 0 ∧ i2 < 0))) ∧ Aside (Below V.heap.size V wr))
  case atStart => exact ⟨.inl ⟨rfl, Nat.le_refl _⟩, Below.refl _ _⟩
  case round =>
    obtain ⟨hcs, BW⟩ := hrel
    rcases hcs with ⟨rfl, hg⟩ | ⟨rfl, hg, hi⟩ | ⟨rfl, hi⟩
    · have y0 := keeps BW.out v0
      have y1 := keeps BW.out v1
      have hys : w.heap.size < wr.heap.size := Nat.lt_of_lt_of_le hVs BW.out.size
      go_wp2_with fail
      refine (HOF1.out wr).mono ?_
      rintro e wa ⟨rfl, ba⟩
      have HBa : Hid (Below V.heap.size V wa) := BW.out.trans (ba.mono BW.out.size)
      clear ba y0 y1 hys
      go_wp2_with fail
      refine (HA1.out wa (HB.out.trans (HBa.out.mono HB.out.size))).mono ?_
      rintro e wb ⟨rfl, bb⟩
      have HBb : Hid (Below V.heap.size V wb) := HBa.out.trans (bb.mono HBa.out.size)
      have HBw : Hid (Below w.heap.size w wb) := HB.out.trans (HBb.out.mono HB.out.size)
      clear bb
      by_cases hz : 0 ≤ i1
      · have HQ : Hid (p1 = 1 ∧ p2 = i1 ∧ p3 = k1) := by have := HP.out; rw [if_pos hz] at this; cases this; exact ⟨rfl, rfl, rfl⟩
        obtain ⟨rfl, rfl, rfl⟩ := HQ.out
        go_wp2_with fail
        exact bodyPost_ret (v := .tuple #[.int .i64 1, .int .i64 p2, .int .i64 p3]) (by simp [results, Tryz.results19, go_sem]) rfl ⟨rfl, HBw.out⟩
      · have hz2 : i1 < 0 := by omega
        go_wp2_with fail
        go_roundg 2
        case measure => omega
        case rel => exact ⟨.inr (.inl ⟨by go_num, Nat.le_refl _, hz2⟩), HBb.out⟩
    · have y0 := keeps BW.out v0
      have y1 := keeps BW.out v1
      have hys : w.heap.size < wr.heap.size := Nat.lt_of_lt_of_le hVs BW.out.size
      go_wp2_with fail
      refine (HOF2.out wr).mono ?_
      rintro e wa ⟨rfl, ba⟩
      have HBa : Hid (Below V.heap.size V wa) := BW.out.trans (ba.mono BW.out.size)
      clear ba y0 y1 hys
      go_wp2_with fail
      refine (HA2.out wa (HB.out.trans (HBa.out.mono HB.out.size))).mono ?_
      rintro e wb ⟨rfl, bb⟩
      have HBb : Hid (Below V.heap.size V wb) := HBa.out.trans (bb.mono HBa.out.size)
      have HBw : Hid (Below w.heap.size w wb) := HB.out.trans (HBb.out.mono HB.out.size)
      clear bb
      by_cases hz : 0 ≤ i2
      · have HQ : Hid (p1 = 2 ∧ p2 = i2 ∧ p3 = k2) := by have := HP.out; have hn := hi.out; rw [if_neg (by omega), if_pos hz] at this; cases this; exact ⟨rfl, rfl, rfl⟩
        obtain ⟨rfl, rfl, rfl⟩ := HQ.out
        go_wp2_with fail
        exact bodyPost_ret (v := .tuple #[.int .i64 2, .int .i64 p2, .int .i64 p3]) (by simp [results, Tryz.results19, go_sem]) rfl ⟨rfl, HBw.out⟩
      · have hz2 : i2 < 0 := by omega
        go_wp2_with fail
        go_roundg 1
        case measure => omega
        case rel => exact ⟨.inr (.inr ⟨by go_num, hi.out, hz2⟩), HBb.out⟩
    · have HQ : Hid (p1 = 0 ∧ p2 = 0 ∧ p3 = 0) := by have := HP.out; have hn := hi.out; rw [if_neg (by omega), if_neg (by omega)] at this; cases this; exact ⟨rfl, rfl, rfl⟩
      obtain ⟨rfl, rfl, rfl⟩ := HQ.out
      go_wp2_with fail
      exact bodyPost_ret (v := .tuple #[.int .i64 0, .int .i64 0, .int .i64 0]) (by simp [results, Tryz.results19, go_sem]) rfl ⟨rfl, HB.out.trans (BW.out.mono HB.out.size)⟩
end Go.Proofs.YtalhdjlopkdnbaaGreatDoor.bok
namespace Go.Proofs.YtalhdjlopkdnbaaGreatDoor.sid
open Go.RowKit Go.Proofs.YtalhdjlopkdnbaaGreatDoor.spn Go.Proofs.YtalhdjlopkdnbaaGreatDoor.que

theorem idx_mem (id : Int) (zs : List R) : 0 ≤ idx id zs ↔ id ∈ zs.map (·.id) := by
  have h := has_idx id zs
  constructor
  · intro h1
    rw [decide_eq_true h1] at h
    cases hm : has id zs with
    | false => rw [hm] at h; cases h
    | true => exact Classical.byContradiction fun hn => by rw [(has_false id zs).2 hn] at hm; cases hm
  · intro h1
    exact Classical.byContradiction fun hn => by
      rw [decide_eq_false hn] at h
      exact (has_false id zs).1 h h1
theorem atGo_mem (id : Int) (ls : List L) : ∀ i : Int, 0 ≤ i → (0 ≤ (atGo id i ls).1 ↔ id ∈ (allR ls).map (·.id)) := by
  induction ls with
  | nil => intro i hi; simp [atGo, allR]
  | cons l t ih =>
    intro i hi
    rw [allR_cons, List.map_append, List.mem_append, ← idx_mem]
    unfold atGo
    by_cases h : 0 ≤ idx id l.rests
    · rw [if_pos h]; simp [h, hi]
    · rw [if_neg h, ih (i + 1) (by omega)]; simp [h]
end Go.Proofs.YtalhdjlopkdnbaaGreatDoor.sid
