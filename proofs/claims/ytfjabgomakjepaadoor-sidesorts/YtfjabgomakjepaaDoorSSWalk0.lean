/- The law SideSorts, where the side is none. -/
import Derived.Test.YtfjabgomakjepaaDoorSSPure
import Derived.Test.YtfjabgomakjepaaDoorTold
namespace Go.Proofs.YtfjabgomakjepaaDoor.sideSorts
open Go.RowKit Go.Proofs.YtfjabgomakjepaaDoor.spn Go.Proofs.YtfjabgomakjepaaDoor.que Go.Proofs.YtfjabgomakjepaaDoor.sid
open Go.Proofs.YtfjabgomakjepaaDoor.tickP (priceB sideB)

theorem walk_side (s : Int) (v : Value) (B w : World) (hs : sideB s = false) (h : told.Inv B w) :
    Calls Tryd.prog 4 #[.int .i64 s, v] w fun e w' => e = .returned (.bool true) ∧ told.Inv B w' := by
  have hcon := scheckS_any s _ [] w (ls_nil w)
  rw [schk_side hs, errV_of (by omega)] at hcon
  have HE := fun W hW => told.error_any B 1 1 W hW
  simp only [show told.errV 1 = .iface 65 (.int .i64 1) from rfl] at HE
  have h1 : ¬ s = 1 := fun e => by rw [e] at hs; simp [sideB] at hs
  have h2 : ¬ s = 2 := fun e => by rw [e] at hs; simp [sideB] at hs
  have b1 : (s == 1) = false := by simpa using h1
  have b2 : (s == 2) = false := by simpa using h2
  have n1 : (s != 1) = true := by simpa using h1
  have n2 : (s != 2) = true := by simpa using h2
  have HI : Hid (told.Inv B w) := h
  clear hs h
  go_enter Tryd.func4, Tryd.ntmps4
  go_wp2_with fail
  refine hcon.mono ?_
  rintro e w1 ⟨rfl, hb⟩
  have HI1 : Hid (told.Inv B w1) := HI.out.on hb
  clear hcon hb
  go_wp2_with fail
  refine (HE w1 HI1.out).mono ?_
  rintro e w2 ⟨rfl, h2⟩
  clear HE
  go_wp2_with fail
  go_ret
  exact ⟨rfl, h2⟩
end Go.Proofs.YtfjabgomakjepaaDoor.sideSorts
