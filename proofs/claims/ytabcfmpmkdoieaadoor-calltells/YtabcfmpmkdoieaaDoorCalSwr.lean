/- Contracts over this seat's translation: slices.swapRangeCmpFunc, slices.rotateCmpFunc at pointers. -/
import Derived.Test.YtabcfmpmkdoieaaDoorCalIns
import Derived.Test.YtabcfmpmkdoieaaDoorMeeOrd
namespace Go.Proofs.YtabcfmpmkdoieaaDoor.cal
open Go.RowKit Go.Lib Go.Sort

theorem hidC {P : Prop} (h : P) : Hid P := h
theorem wrapI (x y : Int) (h : x = y) (h1 : -1000000000 ≤ y) (h2 : y ≤ 1000000000) : IntKind.i64.wrap x = y := by rw [IntKind.wrap_i64]; subst h; omega
theorem wrapW (x y : Int) (h : x = y) (h1 : -1000000000 ≤ y) (h2 : y ≤ 1000000000) : wrap64 x = y := by unfold wrap64; subst h; omega
theorem addI (a i p : Nat) (h : p = a + i) (h2 : p ≤ 5000) : IntKind.i64.wrap ((a : Int) + (i : Int)) = (p : Int) := by rw [IntKind.wrap_i64]; omega
theorem addW (a i p : Nat) (h : p = a + i) (h2 : p ≤ 5000) : wrap64 ((a : Int) + (i : Int)) = (p : Int) := by unfold wrap64; omega
theorem succW (i : Nat) (h2 : i ≤ 5000) : wrap64 ((i : Int) + 1) = ((i + 1 : Nat) : Int) := by unfold wrap64; omega
theorem subW (a i p : Nat) (h : a = p + i) (h2 : a ≤ 5000) : wrap64 ((a : Int) - (i : Int)) = (p : Int) := by unfold wrap64; omega
theorem predW (i p : Nat) (h : i = p + 1) (h2 : i ≤ 5000) : wrap64 ((i : Int) - 1) = (p : Int) := by unfold wrap64; omega
theorem subI (a i p : Nat) (h : a = p + i) (h2 : a ≤ 5000) : IntKind.i64.wrap ((a : Int) - (i : Int)) = (p : Int) := by rw [IntKind.wrap_i64]; omega
theorem mixed : Tryd.prog.follows Departure.mixedOrders = true := by kernel_rfl

section
variable {enc : Nat → Value} {w0 : World} {blk off cap n : Nat} {d0 : Array Nat}

/-- One exchange in a world of the sort's. -/
theorem swap_facts (R : Row1 enc w0 blk off d0) (hs : d0.size = n) {dk : Array Nat} {F : Nat → Nat} {W : World} (hF : Fn dk n F) (S : SW enc w0 blk off dk W) (i j : Nat) (hi : i < n) (hj : j < n) :
    W.cell? ⟨blk, off + i, none⟩ = some (enc (F i)) ∧ W.cell? ⟨blk, off + j, none⟩ = some (enc (F j)) ∧ W.frozen? ⟨blk, off + i, none⟩ = false ∧ W.frozen? ⟨blk, off + j, none⟩ = false ∧
    (∃ u, (W.setCell ⟨blk, off + i, none⟩ (enc (F j))).cell? ⟨blk, off + j, none⟩ = some u) ∧
    ∃ d', Fn d' n (sw F i j) ∧ SW enc w0 blk off d' ((W.setCell ⟨blk, off + i, none⟩ (enc (F j))).setCell ⟨blk, off + j, none⟩ (enc (F i))).drew := by
  have hz := hF.1
  have e1 := hF.2 i hi
  have e2 := hF.2 j hj
  refine ⟨?_, ?_, S.f1 R (by omega) i (by omega), S.f1 R (by omega) j (by omega), ?_, Sort.swp dk i j, hF.swp hi hj, ?_⟩
  · rw [← e1]; exact S.c1 R (by omega) i (by omega)
  · rw [← e2]; exact S.c1 R (by omega) j (by omega)
  · exact S.c2 R (by omega) i j (by omega) (by omega) _
  · rw [← e1, ← e2]; exact S.swapped R i j (by omega) (by omega)

set_option maxHeartbeats 4000000 in
set_option maxRecDepth 1000000 in
theorem swapRange_any (R : Row1 enc w0 blk off d0) (hs : d0.size = n) (fv : Value) (F : Nat → Nat) (a b k : Nat) (dk : Array Nat) (W : World) (hF : Fn dk n F) (S : SW enc w0 blk off dk W) (h1 : a + k ≤ b) (h2 : b + k ≤ n) (hn : n ≤ 1000) :
    Calls Tryd.prog 69 #[.slice (some ⟨blk, off, none⟩) n cap, .int .i64 a, .int .i64 b, .int .i64 k, fv] W fun e w' => e = .returned (.tuple #[]) ∧ ∃ d', Fn d' n (swr F a b k) ∧ SW enc w0 blk off d' w' := by
  have hcl0 := R.hO.cells
  simp only [Value.cells] at hcl0
  have hst := R.hO.store Tryd.prog
  have HF := hidC hF
  have HS := hidC S
  have H1 := hidC h1
  have H2 := hidC h2
  have HN := hidC hn
  have HZ := hidC hs
  clear hF S h1 h2 hn hs
  go_enter Tryd.func69, Tryd.ntmps69
  go_wp2_with fail
  go_loopg [10] k (fun gg s10 wr => ∃ i : Nat, s10 = .int .i64 i ∧ i ≤ k ∧ k - i ≤ gg ∧ Aside (∃ dj, Fn dj n (swr F a b i) ∧ SW enc w0 blk off dj wr))
  case atStart => exact ⟨0, rfl, Nat.zero_le _, by omega, dk, HF.out.eq (swr_zero F a b).symm, HS.out⟩
  case round =>
    obtain ⟨i, rfl, hik, hg, HA⟩ := hrel
    by_cases hlt : i < k
    · have hltz : (i : Int) < (k : Int) := by omega
      obtain ⟨pa, hpa⟩ : ∃ q, q = a + i := ⟨_, rfl⟩
      obtain ⟨pb, hpb⟩ : ∃ q, q = b + i := ⟨_, rfl⟩
      have ba : (pa : Int) < (n : Int) := by have := H1.out; have := H2.out; omega
      have bb : (pb : Int) < (n : Int) := by have := H2.out; omega
      have q1 : pa ≤ 5000 := by have := HN.out; omega
      have q2 : pb ≤ 5000 := by have := HN.out; omega
      have q3 : i ≤ 5000 := by omega
      obtain ⟨dj, hdj, hsj⟩ := HA.out
      obtain ⟨c1, c2, f1, f2, ⟨u, c3⟩, d', g1, g2⟩ := swap_facts R HZ.out hdj hsj pa pb (by omega) (by omega)
      have HG : Hid (Fn d' n (swr F a b (i + 1))) := g1.eq (by rw [hpa, hpb]; exact swr_step F a b i (by have := H1.out; omega))
      generalize swr F a b i pa = X at *
      generalize swr F a b i pb = Y at *
      have ra := addI a i pa hpa q1
      have rb := addI b i pb hpb q2
      have ri := succW i q3
      clear q1 q2 q3
      have HS2 := hidC g2
      clear hdj hsj g1 g2 hpa hpb HA hltz
      have mixed := mixed
      go_wp2_with fail
      go_big_region_o
      generalize ((wr.setCell ⟨blk, off + pa, none⟩ (enc Y)).setCell ⟨blk, off + pb, none⟩ (enc X)).drew = w3 at HS2 ⊢
      clear c1 c2 c3 f1 f2
      go_wp2_with fail
      go_roundg (k - (i + 1))
      case measure => clear ra rb ri ba bb; omega
      case rel => exact ⟨i + 1, congrArg (Value.int .i64) ri, hlt, Nat.le_refl _, d', HG.out, HS2.out⟩
    · have hke : i = k := by omega
      subst hke
      have hnz : ¬ ((i : Int) < (i : Int)) := by omega
      go_wp2_with fail
      go_end0
      exact ⟨rfl, HA.out⟩
end
end Go.Proofs.YtabcfmpmkdoieaaDoor.cal
