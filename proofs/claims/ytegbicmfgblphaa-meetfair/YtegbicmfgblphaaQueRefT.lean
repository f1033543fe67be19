/- Contracts over this seat's translation: the document's Total. -/
import Derived.Test.YtegbicmfgblphaaQueChk
import Derived.Test.YtegbicmfgblphaaQueOwn
namespace Go.Proofs.Ytegbicmfgblphaa.que
open Go.RowKit Go.Proofs.Ytegbicmfgblphaa.spn

theorem wrapSuccT (k n : Nat) (h : k < n) (hn : n ≤ 9223372036854775807) : wrap64 ((k : Int) + 1) = ((k + 1 : Nat) : Int) := by unfold wrap64; omega
theorem rtotal_none (p : Option Addr) (c : Nat) (w : World) :
    Calls Try.prog 31 #[.slice p 0 c] w fun e w' => e = .returned (.int .i64 0) ∧ Below w.heap.size w w' := by
  go_enter Try.func31, Try.ntmps31
  go_wp2_with fail
  go_loopg [3, 4] 0 (fun _ s3 s4 wr => s3 = .int .i64 0 ∧ s4 = .int .i64 0 ∧ wr = w)
  case atStart => exact ⟨rfl, rfl, rfl⟩
  case round =>
    obtain ⟨rfl, rfl, rfl⟩ := hrel
    go_wp2_with fail
    go_ret
    exact ⟨rfl, Below.refl _ _⟩
set_option maxRecDepth 100000 in
set_option maxHeartbeats 1000000 in
theorem rtotal_some (b o c : Nat) (zs : List R) (w : World) (hb : b < w.heap.size) (hl : Lies w b o zs) (h0 : qchk zs = 0) :
    Calls Try.prog 31 #[.slice (some ⟨b, o, none⟩) zs.length c] w fun e w' => e = .returned (.int .i64 (tot zs)) ∧ Below w.heap.size w w' := by
  obtain ⟨h60, hG⟩ := (qchk_zero zs).1 h0
  have HG : Hid (∀ r ∈ zs, rchk r = 0) := hG.1
  clear hG h0
  have HL : Hid (Lies w b o zs) := hl
  clear hl
  generalize hT : tot zs = T
  have HT : Hid (tot zs = T) := hT
  clear hT
  generalize hn : zs.length = n at *
  have HN : Hid (zs.length = n) := hn
  clear hn
  go_enter Try.func31, Try.ntmps31
  go_wp2_with fail
  go_loopg [3, 4] n (fun gg s3 s4 wr => ∃ kk : Nat, kk ≤ n ∧ n - kk ≤ gg ∧ s4 = .int .i64 kk ∧ s3 = .int .i64 (tot (zs.take kk)) ∧ Aside (Below w.heap.size w wr))
  case atStart => exact ⟨0, Nat.zero_le _, by omega, rfl, rfl, Below.refl _ w⟩
  case round =>
    obtain ⟨kk, hkk, hg, rfl, rfl, BW⟩ := hrel
    by_cases hlt : kk < n
    · have hltz : (kk : Int) < (n : Int) := by omega
      have hlz : kk < zs.length := by rw [HN.out]; exact hlt
      have LW : Hid (Lies wr b o zs) := HL.out.below hb BW.out
      obtain ⟨r, hr⟩ : ∃ r, zs[kk]! = r := ⟨_, rfl⟩
      obtain ⟨r1, r2, r3, r4, r5⟩ := r
      obtain ⟨c0, c1, c2, c3, c4⟩ := lies_at LW.out hlz hr
      have hrm : rchk ⟨r1, r2, r3, r4, r5⟩ = 0 := HG.out _ (by rw [← hr, getE _ _ hlz]; exact List.getElem_mem hlz)
      obtain ⟨⟨q1, q2⟩, ⟨q3, q4⟩, -⟩ := rchk_zero hrm
      simp only [] at q1 q2 q3 q4
      have hts : tot (zs.take (kk + 1)) = tot (zs.take kk) + r3 + r4 := by rw [take_at hlz, hr, tot_append]; simp only [tot]; omega
      obtain ⟨tl, th⟩ := tot_le (zs.take kk) (fun x hx => HG.out x (List.mem_of_mem_take hx))
      have htk : ((zs.take kk).length : Int) ≤ 60 := by rw [List.length_take]; omega
      have HTS : Hid (tot (zs.take (kk + 1)) = tot (zs.take kk) + r3 + r4) := hts
      have e1 : wrap64 (tot (zs.take kk) + r3) = tot (zs.take kk) + r3 := by unfold wrap64; omega
      have e2 : wrap64 (tot (zs.take kk) + r3 + r4) = tot (zs.take kk) + r3 + r4 := by unfold wrap64; omega
      clear hts th htk hrm hr
      generalize tot (zs.take kk) = S at *
      have e1' : IntKind.i64.wrap (S + r3) = S + r3 := (IntWalk.i64_left _).trans e1
      have e2' : IntKind.i64.wrap (S + r3 + r4) = S + r3 + r4 := (IntWalk.i64_left _).trans e2
      have hin1 : ¬ ((kk : Int) < 0) := by omega
      have e3 := wrapSuccT kk n hlt (by omega)
      go_wp2_with fail
      go_quiet (fail)
      go_wp2_with fail
      go_roundg (n - (kk + 1))
      case measure => clear e1 e2 e1' e2' e3; omega
      case rel => exact ⟨kk + 1, hlt, Nat.le_refl _, by go_num, by rw [HTS.out], below_drewN BW.out _⟩
    · have hltz : ¬ (kk : Int) < (n : Int) := by omega
      have hT2 : tot (zs.take kk) = T := by rw [← HT.out, List.take_of_length_le (by rw [HN.out]; omega)]
      rw [hT2]
      go_wp2_with fail
      go_ret
      exact ⟨rfl, BW.out⟩
theorem rtotal_any (v : Value) (zs : List R) (w : World) (h : SL w v zs) (h0 : qchk zs = 0) :
    Calls Try.prog 31 #[v] w fun e w' => e = .returned (.int .i64 (tot zs)) ∧ Below w.heap.size w w' := by
  rcases h with ⟨rfl, rfl⟩ | ⟨b, o, c, rfl, h2, h3, h4, h5⟩
  · exact rtotal_none none 0 w
  · exact rtotal_some b o c zs w h4 h5 h0

/-! ### Fills -/
end Go.Proofs.Ytegbicmfgblphaa.que
