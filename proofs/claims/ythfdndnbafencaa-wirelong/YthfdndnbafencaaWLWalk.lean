/- The law WireLong, walked. -/
import Derived.Test.YthfdndnbafencaaWirCmd
namespace Go.Proofs.Ythfdndnbafencaa.wir
open Go.RowKit
open Go.Proofs.Ythfdndnbafencaa.ord (errV errV_zero errV_of)

theorem fact5 : cchk [4, 0, 0, 0, 0, 0, 0, 0, 0, 1, 5] = 0 := by decide
set_option maxRecDepth 100000 in
set_option maxHeartbeats 400000 in
theorem long_walk (xs : List Int) (hl : xs.length = 11) (w : World) :
    Calls Try.prog 4 #[cV xs] w fun e w' => e = .returned (.bool true) ∧ Below w.heap.size w w' := by
  obtain ⟨X, hX⟩ : ∃ X, X = w.heap.size := ⟨_, rfl⟩
  obtain ⟨V, hV⟩ : ∃ V, V = w.alloc (.cells (iL xs).toArray 25) := ⟨_, rfl⟩
  have HV : Hid (Below X w V ∧ Cmd V X xs ∧ V.heap.size = X + 1) := by
    subst hV hX
    exact ⟨(Below.refl _ _).alloc (Nat.le_refl _) _, heap_alloc_new _ _, by simp⟩
  have HX := hidW hX
  have HF : Hid (∀ W, Calls Try.prog 5 #[.agg #[.int .i64 4, .int .i64 0, .int .i64 0, .int .i64 0, .int .i64 0, .int .i64 0, .int .i64 0, .int .i64 0, .int .i64 0, .int .i64 1, .int .i64 5]] W fun e w' => e = .returned (.tuple #[.string (tx (enc [4, 0, 0, 0, 0, 0, 0, 0, 0, 1, 5])), .nilIface]) ∧ Below W.heap.size W w') := fun W => command_good [4, 0, 0, 0, 0, 0, 0, 0, 0, 1, 5] rfl W fact5
  have hz : (tx (enc [4, 0, 0, 0, 0, 0, 0, 0, 0, 1, 5])).size = 7 := by rw [tx_size]; rfl
  generalize tx (enc [4, 0, 0, 0, 0, 0, 0, 0, 0, 1, 5]) = t at HF hz
  rw [← hX]
  obtain ⟨c0, c1, c2, c3, c4, c5, c6, c7, c8, c9, c10, hxs⟩ := list11' hl
  have hcv : cV xs = .agg #[.int .i64 c0, .int .i64 c1, .int .i64 c2, .int .i64 c3, .int .i64 c4, .int .i64 c5, .int .i64 c6, .int .i64 c7, .int .i64 c8, .int .i64 c9, .int .i64 c10] := by rw [hxs]; rfl
  have hiv : (iL xs).toArray = #[.int .i64 c0, .int .i64 c1, .int .i64 c2, .int .i64 c3, .int .i64 c4, .int .i64 c5, .int .i64 c6, .int .i64 c7, .int .i64 c8, .int .i64 c9, .int .i64 c10] := by rw [hxs]; rfl
  rw [hiv] at hV
  have HCM := hidW HV.out.2.1
  rw [hxs] at HCM
  have hx0 : xs[0]! = c0 := by rw [hxs]; rfl
  have HB : Hid (∀ w1, Below V.heap.size V w1 → (Below X w w1 ∧ w1.cell? ⟨X, 0, none⟩ = some (.int .i64 c0) ∧ w1.cell? ⟨X, 1, none⟩ = some (.int .i64 c1) ∧ w1.cell? ⟨X, 2, none⟩ = some (.int .i64 c2) ∧ w1.cell? ⟨X, 3, none⟩ = some (.int .i64 c3) ∧ w1.cell? ⟨X, 4, none⟩ = some (.int .i64 c4) ∧ w1.cell? ⟨X, 5, none⟩ = some (.int .i64 c5) ∧ w1.cell? ⟨X, 6, none⟩ = some (.int .i64 c6) ∧ w1.cell? ⟨X, 7, none⟩ = some (.int .i64 c7) ∧ w1.cell? ⟨X, 8, none⟩ = some (.int .i64 c8) ∧ w1.cell? ⟨X, 9, none⟩ = some (.int .i64 c9) ∧ w1.cell? ⟨X, 10, none⟩ = some (.int .i64 c10))) :=
    fun w1 h => ⟨HV.out.1.trans (h.mono (by have := HCM.out.lt; omega)), (HCM.out.below h).row⟩
  rw [hcv]
  by_cases hE : cchk xs = 0
  · have hsz : (tx (enc xs)).size = lenE c0 := by rw [tx_size, enc_length hl hE, hx0]
    have HC : Hid (∀ W, Calls Try.prog 5 #[.agg #[.int .i64 c0, .int .i64 c1, .int .i64 c2, .int .i64 c3, .int .i64 c4, .int .i64 c5, .int .i64 c6, .int .i64 c7, .int .i64 c8, .int .i64 c9, .int .i64 c10]] W fun e w' => e = .returned (.tuple #[.string (tx (enc xs)), .nilIface]) ∧ Below W.heap.size W w') := by
      rw [← hcv]; exact fun W => command_good xs hl W hE
    generalize tx (enc xs) = u at HC hsz
    clear hcv hiv hxs hx0 hE hl
    go_enter Try.func4, Try.ntmps4
    go_upto_region 1 with fail
    simp only [← hX]
    simp only [← hV]
    clear hX hV
    go_upto_region 4 with (go_at_call 5; refine (HF.out _).mono ?_; rintro e w1 ⟨rfl, hb1⟩)
    obtain ⟨g, a0, a1, a2, a3, a4, a5, a6, a7, a8, a9, a10⟩ := HB.out _ hb1
    have HG := hidW (And.intro g hb1)
    clear g
    go_upto_region 7 with (go_at_call 5; refine (HC.out _).mono ?_; rintro e w2 ⟨rfl, hb2⟩)
    obtain ⟨g2, b0, -⟩ := HB.out _ (HG.out.2.trans (hb2.mono HG.out.2.size))
    have HG2 := hidW g2
    clear g2 a0 a1 a2 a3 a4 a5 a6 a7 a8 a9 a10 HB HC HF
    by_cases h1 : c0 = 1
    · subst h1
      have hs2 : (u.size : Int) = 18 := by rw [hsz]; rfl
      go_wp2_with fail
      go_ret
      exact ⟨rfl, HG2.out⟩
    by_cases h2 : c0 = 2
    · subst h2
      have hs2 : (u.size : Int) = 4 := by rw [hsz]; rfl
      go_wp2_with fail
      go_ret
      exact ⟨rfl, HG2.out⟩
    by_cases h3 : c0 = 3
    · subst h3
      have hs2 : (u.size : Int) = 8 := by rw [hsz]; rfl
      go_wp2_with fail
      go_ret
      exact ⟨rfl, HG2.out⟩
    have hs2 : (u.size : Int) = 7 := by rw [hsz]; unfold lenE; rw [if_neg h1, if_neg h2, if_neg h3]; rfl
    clear hsz
    go_wp2_with fail
    go_ret
    exact ⟨rfl, HG2.out⟩
  · have HC : Hid (∀ W, Calls Try.prog 5 #[.agg #[.int .i64 c0, .int .i64 c1, .int .i64 c2, .int .i64 c3, .int .i64 c4, .int .i64 c5, .int .i64 c6, .int .i64 c7, .int .i64 c8, .int .i64 c9, .int .i64 c10]] W fun e w' => e = .returned (.tuple #[.string ⟨#[]⟩, .iface 50 (.int .i64 (cchk xs))]) ∧ Below W.heap.size W w') := by
      rw [← hcv]; exact fun W => command_bad xs hl W hE
    generalize cchk xs = E at HC
    clear hcv hiv hxs hx0 hE hl
    go_enter Try.func4, Try.ntmps4
    go_upto_region 1 with fail
    simp only [← hX]
    simp only [← hV]
    clear hX hV
    go_upto_region 4 with (go_at_call 5; refine (HF.out _).mono ?_; rintro e w1 ⟨rfl, hb1⟩)
    obtain ⟨g, a0, a1, a2, a3, a4, a5, a6, a7, a8, a9, a10⟩ := HB.out _ hb1
    have HG := hidW (And.intro g hb1)
    clear g
    go_wp2_with (go_at_call 5; refine (HC.out _).mono ?_; rintro e w2 ⟨rfl, hb2⟩)
    go_ret
    exact ⟨rfl, (HB.out _ (HG.out.2.trans (hb2.mono HG.out.2.size))).1⟩
end Go.Proofs.Ythfdndnbafencaa.wir
