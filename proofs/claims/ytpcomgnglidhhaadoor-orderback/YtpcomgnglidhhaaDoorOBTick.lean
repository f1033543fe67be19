/- Contracts over this seat's translation: tick.Better at every input; what OrderBack's first text says. -/
import Derived.Test.YtpcomgnglidhhaaDoorOrdParse
namespace Go.Proofs.YtpcomgnglidhhaaDoor.ord
open Go.RowKit

/-- Is it asked which of two prices is the better one as it may be? -/
def bkOk (s a b : Int) : Bool := (decide (s = 1) || decide (s = 2)) && (prB a && prB b)
def bkB (s a b : Int) : Bool := if s = 1 then decide (a < b) else decide (b < a)

theorem bk_is (s a b : Int) : tickP.betOk s a b = bkOk s a b := rfl
theorem better_bad (s a b : Int) (w : World) (h : bkOk s a b = false) :
    Calls Tryd.prog 8 #[.int .i64 s, .int .i64 a, .int .i64 b] w fun e w' => e = .returned (.tuple #[.bool false, .iface 40 (.int .i64 1)]) ∧ Below w.heap.size w w' := by
  refine (tickP.better_V w s a b w (Below.refl _ _)).mono ?_
  rintro e w' ⟨rfl, hb⟩
  unfold tickP.betR
  rw [bk_is, h]
  exact ⟨rfl, hb⟩
theorem better_fine (s a b : Int) (w : World) (h : bkOk s a b = true) :
    Calls Tryd.prog 8 #[.int .i64 s, .int .i64 a, .int .i64 b] w fun e w' => e = .returned (.tuple #[.bool (bkB s a b), .nilIface]) ∧ Below w.heap.size w w' := by
  refine (tickP.better_V w s a b w (Below.refl _ _)).mono ?_
  rintro e w' ⟨rfl, hb⟩
  unfold tickP.betR
  rw [bk_is, h]
  exact ⟨rfl, hb⟩

theorem bk_dec {n : Nat} (h : 1 ≤ n) (l : List UInt8) (hl : numOk l = true) (hv : val l = n) : dec n = l := by
  rw [dec_pos (by omega), Int.toNat_natCast, ← hv]
  exact (numOk_val hl).1

theorem bk_txt : txt ⟨7, 1, 1, 1, 100, 20, 5, 0⟩ = [55, 32, 49, 32, 98, 117, 121, 32, 108, 105, 109, 105, 116, 32, 50, 48, 32, 97, 116, 32, 49, 48, 48, 32, 115, 104, 111, 119, 32, 53] := by
  have d7 : dec 7 = [55] := bk_dec (n := 7) (by omega) _ (by decide) (by decide)
  have d1 : dec 1 = [49] := bk_dec (n := 1) (by omega) _ (by decide) (by decide)
  have d20 : dec 20 = [50, 48] := bk_dec (n := 20) (by omega) _ (by decide) (by decide)
  have d100 : dec 100 = [49, 48, 48] := bk_dec (n := 100) (by omega) _ (by decide) (by decide)
  have d5 : dec 5 = [53] := bk_dec (n := 5) (by omega) _ (by decide) (by decide)
  unfold txt wordsOf headWs tailWs
  simp only [d7, d1, d20, more, d100, d5]
  rfl

theorem bk_fact (w : World) (hL : Laid w) (hE : ErrL w) :
    Calls Tryd.prog 5 #[.string ⟨#[55, 32, 49, 32, 98, 117, 121, 32, 108, 105, 109, 105, 116, 32, 50, 48, 32, 97, 116, 32, 49, 48, 48, 32, 115, 104, 111, 119, 32, 53]⟩] w
      fun e w' => e = .returned (.tuple #[.agg #[.int .i64 7, .int .i64 1, .int .i64 1, .int .i64 1, .int .i64 100, .int .i64 20, .int .i64 5, .int .i64 0], .nilIface]) ∧ Below w.heap.size w w' := by
  have hc : chk ⟨7, 1, 1, 1, 100, 20, 5, 0⟩ = 0 := by decide
  have h := rd_txt hc
  rw [bk_txt] at h
  have p := parse_any ⟨#[55, 32, 49, 32, 98, 117, 121, 32, 108, 105, 109, 105, 116, 32, 50, 48, 32, 97, 116, 32, 49, 48, 48, 32, 115, 104, 111, 119, 32, 53]⟩ w hL hE (by decide)
  rw [h.1, h.2] at p
  exact p

end Go.Proofs.YtpcomgnglidhhaaDoor.ord
