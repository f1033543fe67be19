/- Contracts over this seat's translation: strings.SplitN at a blank, twelve pieces at most, of any text. -/
import Derived.Test.YtpcomgnglidhhaaGreatDoorOrdPrint
import Derived.Deep.OwnRows
namespace Go.Proofs.YtpcomgnglidhhaaGreatDoor.ord
open Go.RowKit

/-- The blank, as a text. -/
def sp : ByteArray := ⟨#[32]⟩

theorem index_any (s : ByteArray) (w : World) :
    Calls Tryz.prog 69 #[.string s, .string ⟨#[32]⟩] w fun e w' => e = .returned (.int .i64 (Lib.indexB s sp)) ∧ w' = w := by
  have h := Tryz.strings_Index_one s 32 w
  rw [← Lib.index_one] at h
  exact h

theorem infoS' : (Tryz.prog.info? 9).map (fun i => (i.zero, i.size, i.bytes)) = some (some (.string ByteArray.empty), 1, 16) := by kernel_rfl

set_option maxRecDepth 100000 in
set_option maxHeartbeats 2000000 in
theorem genSplit_any (s : ByteArray) (N : Nat) (w : World) (hs : s.size ≤ 9223372036854775806) (hN : min (12 : Int) ((s.size : Int) + 1) = (N : Int)) :
    Calls Tryz.prog 55 #[.string s, .string ⟨#[32]⟩, .int .i64 0, .int .i64 12] w fun e w' =>
      e = .returned (.slice (some ⟨w.heap.size, 0, none⟩) (Lib.splitB sp 0 (N - 1) s).length N) ∧ w' = w.alloc (.cells (Lib.cellsOf (Lib.splitB sp 0 (N - 1) s) N) 9) := by
  have hsI : (s.size : Int) ≤ 9223372036854775806 := by omega
  have hN12 : (N : Int) ≤ 12 := by omega
  have hN1 : (1 : Int) ≤ (N : Int) := by omega
  have hmk := run_make_row' (P := Tryz.prog) 49 9 (.string ByteArray.empty) 16 Tryz.underlying49 infoS' rfl .i64 .i64 N (by omega) (by omega)
  go_enter Tryz.func55, Tryz.ntmps55
  go_wp2_with fail
  clear hmk hN
  go_loopw [0, 10] (fun s0 i wr => ∃ (ds : List ByteArray) (r : ByteArray), s0 = .string r ∧ i = .int .i64 ds.length ∧ ds.length ≤ N - 1 ∧ r.size ≤ s.size ∧ wr = w.alloc (.cells (Lib.cellsOf ds N) 9) ∧ Hid (ds ++ Lib.splitB sp 0 (N - 1 - ds.length) r = Lib.splitB sp 0 (N - 1) s))
    (fun _ i _ => N - (intOf i).toNat)
  case atStart => exact ⟨[], s, rfl, rfl, Nat.zero_le _, Nat.le_refl _, by rw [Lib.cellsOf_nil], rfl⟩
  case round =>
    obtain ⟨ds, r, rfl, rfl, hd, hrs, rfl, HS⟩ := hrel
    have hnext : (Lib.cellsOf ds N)[ds.length]? = some (.string ByteArray.empty) := Lib.cellsOf_next (by omega)
    have hr2 : (r.size : Int) ≤ 9223372036854775806 := by omega
    have FIN : Hid (Lib.splitB sp 0 (N - 1 - ds.length) r = [r] → (Lib.splitB sp 0 (N - 1) s).length = ds.length + 1 ∧ (Lib.cellsOf ds N).setIfInBounds ds.length (.string r) = Lib.cellsOf (Lib.splitB sp 0 (N - 1) s) N) := by
      intro h
      have e := HS.out
      rw [h] at e
      rw [← e]
      exact ⟨by simp, Lib.cellsOf_set (by omega) r⟩
    by_cases hlt : ds.length < N - 1
    · have hltz : ((ds.length : Nat) : Int) < (N : Int) - 1 := by omega
      have hix := index_any r
      rcases Lib.indexB_cases r sp with h | ⟨i, h, hroom⟩
      · have HX : Hid (Lib.indexB r sp = -1) := h
        rw [h] at hix
        clear h
        go_wp2_with fail
        refine (hix _).mono ?_
        rintro e w' ⟨rfl, rfl⟩
        go_wp2_with fail
        go_ret
        obtain ⟨f1, f2⟩ := FIN.out (Lib.splitB_miss sp 0 _ r HX.out)
        rw [f1, ← f2]
        exact ⟨by first | rfl | (congr 2 <;> omega), rfl⟩
      · have HX : Hid (Lib.indexB r sp = i) := h
        rw [h] at hix
        clear h
        have hroom' : i + 1 ≤ r.size := hroom
        have c0 : ¬ ((i : Int) < 0) := by omega
        have c2 : (i : Int) ≤ ↑r.size := by omega
        have c4 : (i : Int) + 1 ≤ ↑r.size := by omega
        clear hroom
        go_wp2_with fail
        refine (hix _).mono ?_
        rintro e w' ⟨rfl, rfl⟩
        go_wp2_with fail
        go_roundw
        case rel =>
          refine ⟨ds ++ [r.extract 0 (i + 0)], r.extract (i + sp.size) r.size, rfl, by simp, by simp; omega, by rw [ByteArray.size_extract]; omega, by rw [← Lib.cellsOf_set (by omega)]; rfl, ?_⟩
          show _ = _
          rw [← HS.out, show N - 1 - ds.length = (N - 1 - (ds.length + 1)) + 1 by omega, Lib.splitB_hit sp 0 _ r i HX.out]
          simp
        case measure => simp [intOf]; omega
    · have hltz : ¬ (((ds.length : Nat) : Int) < (N : Int) - 1) := by omega
      go_wp2_with fail
      go_ret
      obtain ⟨f1, f2⟩ := FIN.out (by rw [show N - 1 - ds.length = 0 by omega]; rfl)
      rw [f1, ← f2]
      exact ⟨by first | rfl | (congr 2 <;> omega), rfl⟩

/-- Words that lie in a row of memory. -/
def RowAt (w : World) (g off : Nat) (ws : List (List UInt8)) : Prop := ∀ (j : Nat) (l : List UInt8), ws[j]? = some l → w.cell? ⟨g, off + j, none⟩ = some (.string ⟨l.toArray⟩)

theorem RowAt.below {w w' : World} {g off : Nat} {ws : List (List UInt8)} (h : RowAt w g off ws) (hb : Below w.heap.size w w') : RowAt w' g off ws := fun j l hj => keeps hb (h j l hj)

theorem cut_le (l : List UInt8) : (cut l).length ≤ l.length + 1 := by
  induction l with
  | nil => simp [cut]
  | cons c r ih =>
    by_cases hc : c = 32
    · subst hc; rw [cut_blank]; simp; exact ih
    · obtain ⟨a, t, h1, h2⟩ := cut_other hc r
      rw [h2]
      rw [h1] at ih
      simp at ih ⊢
      omega

theorem pieces_are (s : ByteArray) (N : Nat) (hN : min (12 : Int) ((s.size : Int) + 1) = (N : Int)) : (Lib.splitB sp 0 (N - 1) s).map (·.data.toList) = cutK 11 s.data.toList := by
  rw [Lib.splitB_data]
  show Lib.splitK [32] 0 (N - 1) s.data.toList = _
  rw [splitK_cutK]
  by_cases h : N = 12
  · rw [h]
  · have hl := cut_le s.data.toList
    rw [← size_list] at hl
    have e : N = s.size + 1 := by omega
    rw [cutK_all _ _ (by omega), cutK_all _ _ (by omega)]

theorem splitN_row (s : ByteArray) (w : World) (hs : s.size ≤ 9223372036854775806) :
    Calls Tryz.prog 40 #[.string s, .string ⟨#[32]⟩, .int .i64 12] w fun e w' => ∃ cap, e = .returned (.slice (some ⟨w.heap.size, 0, none⟩) (cutK 11 s.data.toList).length cap) ∧ (cutK 11 s.data.toList).length ≤ cap ∧ cap ≤ 12 ∧
      RowAt w' w.heap.size 0 (cutK 11 s.data.toList) ∧ Below w.heap.size w w' := by
  obtain ⟨N, hN⟩ : ∃ N : Nat, min (12 : Int) ((s.size : Int) + 1) = (N : Int) := ⟨(min (12 : Int) ((s.size : Int) + 1)).toNat, by omega⟩
  have hp := pieces_are s N hN
  have hcon : Calls Tryz.prog 55 #[.string s, .string ⟨#[32]⟩, .int .i64 0, .int .i64 12] w fun e w' => ∃ cap, e = .returned (.slice (some ⟨w.heap.size, 0, none⟩) (cutK 11 s.data.toList).length cap) ∧ (cutK 11 s.data.toList).length ≤ cap ∧ cap ≤ 12 ∧
      RowAt w' w.heap.size 0 (cutK 11 s.data.toList) ∧ Below w.heap.size w w' := by
    refine (genSplit_any s N w hs hN).mono ?_
    rintro e w' ⟨rfl, rfl⟩
    have hl : (Lib.splitB sp 0 (N - 1) s).length = (cutK 11 s.data.toList).length := by rw [← hp, List.length_map]
    have hle := Lib.splitB_length_le sp 0 (N - 1) s
    refine ⟨N, by rw [hl], by omega, by omega, ?_, (Below.refl _ _).alloc (Nat.le_refl _) _⟩
    intro j l hj
    rw [← hp, List.getElem?_map] at hj
    rw [World.cell?_alloc_at _ _ _ _ rfl, Nat.zero_add]
    obtain ⟨x, hx, rfl⟩ := Option.map_eq_some_iff.1 hj
    have hlt : j < (Lib.splitB sp 0 (N - 1) s).length := (List.getElem?_eq_some_iff.1 hx).1
    unfold Lib.cellsOf
    simp only [List.getElem?_toArray]
    rw [List.getElem?_append_left (by simpa using hlt), List.getElem?_map, hx]
    rfl
  generalize (cutK 11 s.data.toList).length = n at *
  generalize cutK 11 s.data.toList = ws at *
  clear hp hN
  go_enter Tryz.func40, Tryz.ntmps40
  go_wp2_with fail
  refine hcon.mono ?_
  rintro e w1 ⟨cap, rfl, h1, h2, h3, h4⟩
  have H3 : Hid (RowAt w1 w.heap.size 0 ws) := h3
  clear h3
  go_wp2_with fail
  go_ret
  exact ⟨cap, rfl, h1, h2, H3, h4⟩

end Go.Proofs.YtpcomgnglidhhaaGreatDoor.ord
