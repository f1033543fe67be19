/- Contracts over this seat's translation: side.places at every side; side.Check, side.Best, side.Find. -/
import Derived.Test.YtegbicmfgblphaaSidPlace
namespace Go.Proofs.Ytegbicmfgblphaa.sid
open Go.RowKit Go.Proofs.Ytegbicmfgblphaa.spn Go.Proofs.Ytegbicmfgblphaa.que Go.Maps
open Go.Proofs.Ytegbicmfgblphaa.tickP (priceB sideB betOk betR)

theorem schk_none {s : Int} (h : sideB s = true) : schk s [] = 0 := schk_ok h rfl (by simp [cnt]) (by simp [ids, flatP])
set_option maxRecDepth 100000 in
set_option maxHeartbeats 1000000 in
theorem places_nil (s : Int) (w : World) (hk : sideB s = true) :
    Calls Try.prog 50 #[.int .i64 s, .slice none 0 0] w fun e w' => PlacesPost s [] w e w' := by
  have HS : Hid ([(s, 1, 2)].any spanB = false) := by have := side_span s; rw [hk] at this; exact this
  have HOK : Hid (∀ W B, Below w.heap.size w W → w.heap.size ≤ B → Own W B [] → PlacesPost s [] w (.returned (.tuple #[.map (some B), .nilIface])) W) := fun W B hW hB hO => ⟨hW, .inr ⟨schk_none hk, B, hB, rfl, hO⟩⟩
  generalize PlacesPost s [] w = POST at *
  clear hk
  go_enter Try.func50, Try.ntmps50
  go_wp2_with fail
  refine (side_any s w).mono ?_
  rintro e w1 ⟨rfl, h1⟩
  go_wp2_with fail
  refine (scheck1 false _ _ _ _ _ rfl HS.out).mono ?_
  rintro e w2 ⟨rfl, h2⟩
  simp only [show errV (rangeE false) = .nilIface from rfl]
  have HD : Hid (Below w.heap.size w w2) := h1.trans (h2.mono h1.size)
  clear h1 h2
  go_wp2_with fail
  go_loopg [7, 8, 9, 21] 0 (fun _ _ _ _ s21 wr => s21 = .int .i64 0 ∧ Aside (Below w.heap.size w wr))
  case atStart => exact ⟨rfl, HD.out⟩
  case round =>
    obtain ⟨rfl, BW⟩ := hrel
    go_wp2_with fail
    refine (count_nil _).mono ?_
    rintro e w3 ⟨rfl, h3⟩
    have HW3 : Hid (Below w.heap.size w w3) := BW.out.trans (h3.mono BW.out.size)
    clear h3
    go_wp2_with fail
    refine (see_nil _).mono ?_
    rintro e w4 ⟨rfl, hO, h4⟩
    have HW4 : Hid (Below w.heap.size w w4) := HW3.out.trans (h4.mono HW3.out.size)
    have HX := HOK.out _ _ HW4.out HW3.out.size hO
    have hown : w4.ownsMap Try.prog 3 plR w3.heap.size 0 (.map []) := hO
    have hsz : Maps.size (.map [] : DataW Unit) = 0 := rfl
    clear h4 hO
    generalize w3.heap.size = B at *
    go_wp2_with (at_len; refine wpList_len_own _ rfl _ 91 rfl 3 101 Try.underlying91 plR B _ _ rfl hown ?_; rw [hsz])
    exact HX
/-- places, at every side. -/
theorem places_any (s : Int) (v : Value) (ls : List L) (w : World) (h : LS w v ls) :
    Calls Try.prog 50 #[.int .i64 s, v] w fun e w' => PlacesPost s ls w e w' := by
  cases hk : sideB s
  · rcases h with ⟨rfl, rfl⟩ | ⟨b, o, c, rfl, h2, h3, h4, h5⟩
    · exact places_side s none 0 0 [] w hk
    · exact places_side s (some ⟨b, o, none⟩) _ c ls w hk
  · rcases h with ⟨rfl, rfl⟩ | ⟨b, o, c, rfl, h2, h3, h4, h5⟩
    · exact places_nil s w hk
    · exact places_some s b o c ls w h4 h2 h3 h5 hk

/-- Check, at every side. -/
theorem scheckS_any (s : Int) (v : Value) (ls : List L) (w : World) (h : LS w v ls) :
    Calls Try.prog 27 #[.int .i64 s, v] w fun e w' => e = .returned (errV (schk s ls)) ∧ Below w.heap.size w w' := by
  have hcon := places_any s v ls w h
  generalize hQ : schk s ls = Q
  have HP : Hid (∀ e w', PlacesPost s ls w e w' → Below w.heap.size w w' ∧ ∃ m, e = .returned (.tuple #[.map m, errV Q])) := fun e w' hp => by
    obtain ⟨h1, ⟨_, h3⟩ | ⟨h2, B, _, h3, _⟩⟩ := hp
    · rw [hQ] at h3; exact ⟨h1, _, h3⟩
    · rw [hQ] at h2; rw [h2]; exact ⟨h1, _, h3⟩
  clear h hQ
  generalize errV Q = E at *
  go_enter Try.func27, Try.ntmps27
  go_wp2_with fail
  refine hcon.mono ?_
  rintro e w1 hp
  obtain ⟨h1, m, rfl⟩ := HP.out _ _ hp
  clear hcon HP hp
  go_wp2_with fail
  go_ret
  exact ⟨rfl, h1⟩
end Go.Proofs.Ytegbicmfgblphaa.sid
