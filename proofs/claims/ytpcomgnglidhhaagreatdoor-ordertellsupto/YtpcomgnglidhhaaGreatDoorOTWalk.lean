/- The walk of OrderTells, at texts of up to two million bytes. -/
import Derived.Test.YtpcomgnglidhhaaGreatDoorOrdRef6
import Derived.Test.YtpcomgnglidhhaaGreatDoorTold
namespace Go.Proofs.YtpcomgnglidhhaaGreatDoor.ord
open Go.RowKit

theorem int_eqv {a b : Int} (h : a = b) : (Value.int .i64 a) = .int .i64 b := by rw [h]
theorem bool_eqv {a b : Bool} (h : a = b) : Value.bool a = .bool b := by rw [h]
theorem str_eqv {a b : ByteArray} (h : a = b) : Value.string a = .string b := by rw [h]

/-- The document's Read, at every text of up to two million bytes. -/
theorem rread_any (s : ByteArray) (w : World) (hs : s.size ≤ 2000000) :
    Calls Tryz.prog 9 #[.string s] w fun e w' => e = .returned (.tuple #[oV (rdR s.data.toList), .int .i64 (rdE s.data.toList)]) ∧ Below w.heap.size w w' := by
  by_cases h : (cut s.data.toList).length < 5
  · have hb : rdB (cut s.data.toList) = false := by
      unfold rdB
      split
      · rename_i hh; rw [hh] at h; simp at h; omega
      · rfl
    obtain ⟨e1, e2⟩ := rd_bad hb
    rw [e1, e2]
    exact rread_short s w hs h
  · match hc : cut s.data.toList, h with
    | [], h => simp at h
    | [_], h => simp at h
    | [_, _], h => simp at h
    | [_, _, _], h => simp at h
    | [_, _, _, _], h => simp at h
    | A :: B :: C :: E :: F :: tl, _ => exact rread_long s w hs A B C E F tl hc

/-- What the walk holds. -/
structure TI (B w : World) (i0 i1 i2 i3 i4 i5 i6 i7 : Int) (wx : World) : Prop where
  inv : told.Inv B wx
  laid : Laid wx
  err : ErrL wx
  far : Below w.heap.size w wx
  box : wx.heap[w.heap.size]? = some (.cells #[.int .i64 i0, .int .i64 i1, .int .i64 i2, .int .i64 i3, .int .i64 i4, .int .i64 i5, .int .i64 i6, .int .i64 i7] 23 (0, 0))
theorem TI.lt {B w wx : World} {i0 i1 i2 i3 i4 i5 i6 i7 : Int} (h : TI B w i0 i1 i2 i3 i4 i5 i6 i7 wx) : w.heap.size < wx.heap.size := (Array.getElem?_eq_some_iff.1 h.box).1
theorem TI.on {B w wx wy : World} {i0 i1 i2 i3 i4 i5 i6 i7 : Int} (h : TI B w i0 i1 i2 i3 i4 i5 i6 i7 wx) (hb : Below wx.heap.size wx wy) : TI B w i0 i1 i2 i3 i4 i5 i6 i7 wy :=
  ⟨h.inv.on hb, h.laid.below hb, h.err.below hb, h.far.trans (hb.mono h.far.size), (hb.block w.heap.size h.lt).trans h.box⟩
def Row8 (wx : World) (X : Nat) (j0 j1 j2 j3 j4 j5 j6 j7 : Int) : Prop := wx.heap[X]? = some (.cells #[.int .i64 j0, .int .i64 j1, .int .i64 j2, .int .i64 j3, .int .i64 j4, .int .i64 j5, .int .i64 j6, .int .i64 j7] 23 (0, 0))
theorem Row8.on {wx wy : World} {X : Nat} {j0 j1 j2 j3 j4 j5 j6 j7 : Int} (h : Row8 wx X j0 j1 j2 j3 j4 j5 j6 j7) (hb : Below wx.heap.size wx wy) : Row8 wy X j0 j1 j2 j3 j4 j5 j6 j7 := (hb.block X (Array.getElem?_eq_some_iff.1 h).1).trans h
theorem row8 {w : World} {B : Nat} {x0 x1 x2 x3 x4 x5 x6 x7 : Value} {t : TypeId} (h : w.heap[B]? = some (.cells #[x0, x1, x2, x3, x4, x5, x6, x7] t (0, 0))) :
    w.cell? ⟨B, 0, none⟩ = some x0 ∧ w.cell? ⟨B, 1, none⟩ = some x1 ∧ w.cell? ⟨B, 2, none⟩ = some x2 ∧ w.cell? ⟨B, 3, none⟩ = some x3 ∧ w.cell? ⟨B, 4, none⟩ = some x4 ∧ w.cell? ⟨B, 5, none⟩ = some x5 ∧ w.cell? ⟨B, 6, none⟩ = some x6 ∧ w.cell? ⟨B, 7, none⟩ = some x7 :=
  ⟨by simp [World.cell?, h], by simp [World.cell?, h], by simp [World.cell?, h], by simp [World.cell?, h], by simp [World.cell?, h], by simp [World.cell?, h], by simp [World.cell?, h], by simp [World.cell?, h]⟩

theorem err_same (B w : World) (i0 i1 i2 i3 i4 i5 i6 i7 k : Int) (wx : World) (h : TI B w i0 i1 i2 i3 i4 i5 i6 i7 wx) :
    Calls Tryz.prog 5 #[errV k, .int .i64 k] wx fun ev w' => ev = .returned (.bool true) ∧ Below wx.heap.size wx w' := by
  refine (told.error_any wx k k wx (told.Inv.start h.inv.laid)).mono ?_
  rintro e w' ⟨rfl, h'⟩
  exact ⟨by rw [beq_self_eq_true], h'.2⟩
theorem mE_is (o : O) (x : Int) : mE o x = if chk o = 0 ∧ prB x = false then 1 else chk o := by
  unfold mE
  by_cases h : chk o = 0
  · cases hp : prB x <;> simp [h]
  · simp [h]
theorem side_of {o : O} (h : chk o = 0) : o.side = 1 ∨ o.side = 2 := by
  have := (chk_zero h).1
  unfold headB at this
  simp only [Bool.and_eq_true, decide_eq_true_eq] at this
  omega

set_option maxRecDepth 100000 in
set_option maxHeartbeats 4000000 in
theorem tells_walk (i0 i1 i2 i3 i4 i5 i6 i7 x : Int) (tx : ByteArray) (B w : World) (hI : told.Inv B w) (hL : Laid w) (hE : ErrL w) (hs : tx.size ≤ 2000000) :
    Calls Tryz.prog 3 #[.agg #[.int .i64 i0, .int .i64 i1, .int .i64 i2, .int .i64 i3, .int .i64 i4, .int .i64 i5, .int .i64 i6, .int .i64 i7], .int .i64 x, .string tx] w fun e w' => e = .returned (.bool true) ∧ told.Inv B w' := by
  have hal : Below w.heap.size w (w.alloc (.cells #[.int .i64 i0, .int .i64 i1, .int .i64 i2, .int .i64 i3, .int .i64 i4, .int .i64 i5, .int .i64 i6, .int .i64 i7] 23)) := (Below.refl _ _).alloc (Nat.le_refl _) _
  have HQ0 : Hid (TI B w i0 i1 i2 i3 i4 i5 i6 i7 (w.alloc (.cells #[.int .i64 i0, .int .i64 i1, .int .i64 i2, .int .i64 i3, .int .i64 i4, .int .i64 i5, .int .i64 i6, .int .i64 i7] 23))) := ⟨hI.on hal, hL.below hal, hE.below hal, hal, heap_alloc_new w _⟩
  clear hal hI hL hE
  obtain ⟨K, hK⟩ : ∃ K, chk ⟨i0, i1, i2, i3, i4, i5, i6, i7⟩ = K := ⟨_, rfl⟩
  have HK : Hid (chk ⟨i0, i1, i2, i3, i4, i5, i6, i7⟩ = K) := hK
  clear hK
  obtain ⟨S, hS⟩ : ∃ S : ByteArray, (⟨(if K = 0 then txt ⟨i0, i1, i2, i3, i4, i5, i6, i7⟩ else []).toArray⟩ : ByteArray) = S := ⟨_, rfl⟩
  have HS : Hid ((⟨(if K = 0 then txt ⟨i0, i1, i2, i3, i4, i5, i6, i7⟩ else []).toArray⟩ : ByteArray) = S) := hS
  clear hS
  obtain ⟨R, hR⟩ : ∃ R, rdE tx.data.toList = R := ⟨_, rfl⟩
  obtain ⟨jo, hj⟩ : ∃ jo, rdR tx.data.toList = jo := ⟨_, rfl⟩
  obtain ⟨j0, j1, j2, j3, j4, j5, j6, j7⟩ := jo
  have HJ : Hid (rdE tx.data.toList = R ∧ rdR tx.data.toList = ⟨j0, j1, j2, j3, j4, j5, j6, j7⟩) := ⟨hR, hj⟩
  clear hR hj
  have Hs : Hid (tx.size ≤ 2000000) := hs
  clear hs
  have HORD : Hid (∀ W, Calls Tryz.prog 4 #[.agg #[.int .i64 i0, .int .i64 i1, .int .i64 i2, .int .i64 i3, .int .i64 i4, .int .i64 i5, .int .i64 i6, .int .i64 i7]] W fun e w' => e = .returned (.int .i64 K) ∧ Below W.heap.size W w') := by
    intro W
    have := rord_any ⟨i0, i1, i2, i3, i4, i5, i6, i7⟩ W
    rwa [HK.out] at this
  have HCHK : Hid (∀ W, Calls Tryz.prog 6 #[.agg #[.int .i64 i0, .int .i64 i1, .int .i64 i2, .int .i64 i3, .int .i64 i4, .int .i64 i5, .int .i64 i6, .int .i64 i7]] W fun e w' => e = .returned (errV K) ∧ Below W.heap.size W w') := by
    intro W
    have := check_any ⟨i0, i1, i2, i3, i4, i5, i6, i7⟩ W
    rwa [HK.out] at this
  have HPR : Hid (∀ W, Laid W → Calls Tryz.prog 8 #[.agg #[.int .i64 i0, .int .i64 i1, .int .i64 i2, .int .i64 i3, .int .i64 i4, .int .i64 i5, .int .i64 i6, .int .i64 i7]] W fun e w' => e = .returned (.tuple #[.string S, errV K]) ∧ Below W.heap.size W w') := by
    intro W hW
    have := print_any ⟨i0, i1, i2, i3, i4, i5, i6, i7⟩ W hW
    rw [HK.out, HS.out] at this
    exact this
  have HRD : Hid (∀ W, Calls Tryz.prog 9 #[.string tx] W fun e w' => e = .returned (.tuple #[.agg #[.int .i64 j0, .int .i64 j1, .int .i64 j2, .int .i64 j3, .int .i64 j4, .int .i64 j5, .int .i64 j6, .int .i64 j7], .int .i64 R]) ∧ Below W.heap.size W w') := by
    intro W
    have := rread_any tx W Hs.out
    rw [HJ.out.1, HJ.out.2] at this
    exact this
  have HPA : Hid (∀ W, Laid W → ErrL W → Calls Tryz.prog 10 #[.string tx] W fun e w' => e = .returned (.tuple #[.agg #[.int .i64 j0, .int .i64 j1, .int .i64 j2, .int .i64 j3, .int .i64 j4, .int .i64 j5, .int .i64 j6, .int .i64 j7], errV R]) ∧ Below W.heap.size W w') := by
    intro W hL hE
    have := parse_any tx W hL hE (by have := Hs.out; omega)
    rw [HJ.out.1, HJ.out.2] at this
    exact this
  obtain ⟨M, hM⟩ : ∃ M, mE ⟨i0, i1, i2, i3, i4, i5, i6, i7⟩ x = M := ⟨_, rfl⟩
  obtain ⟨bm, hbm⟩ : ∃ bm, (if M = 0 then mB ⟨i0, i1, i2, i3, i4, i5, i6, i7⟩ x else false) = bm := ⟨_, rfl⟩
  obtain ⟨bp, hbp⟩ : ∃ bp, prB x = bp := ⟨_, rfl⟩
  have HM : Hid (mE ⟨i0, i1, i2, i3, i4, i5, i6, i7⟩ x = M ∧ M = if K = 0 ∧ bp = false then 1 else K) := ⟨hM, by rw [← hM, mE_is, HK.out, hbp]⟩
  have HBM : Hid ((if M = 0 then mB ⟨i0, i1, i2, i3, i4, i5, i6, i7⟩ x else false) = bm) := hbm
  have HBP : Hid (prB x = bp) := hbp
  clear hM hbm hbp
  have HME : Hid (∀ W, Calls Tryz.prog 13 #[.agg #[.int .i64 i0, .int .i64 i1, .int .i64 i2, .int .i64 i3, .int .i64 i4, .int .i64 i5, .int .i64 i6, .int .i64 i7], .int .i64 x] W fun e w' => e = .returned (.tuple #[.bool bm, errV M]) ∧ Below W.heap.size W w') := by
    intro W
    have := meets_any ⟨i0, i1, i2, i3, i4, i5, i6, i7⟩ x W
    rw [HM.out.1, HBM.out] at this
    exact this
  have HMAY : Hid (M = 0 → ∀ W, Calls Tryz.prog 12 #[.agg #[.int .i64 i0, .int .i64 i1, .int .i64 i2, .int .i64 i3, .int .i64 i4, .int .i64 i5, .int .i64 i6, .int .i64 i7], .int .i64 x] W fun e w' => e = .returned (.bool bm) ∧ Below W.heap.size W w') := by
    intro h W
    have hk : chk ⟨i0, i1, i2, i3, i4, i5, i6, i7⟩ = 0 := by
      have h1 := HM.out.2
      rw [h] at h1
      rw [HK.out]
      by_cases h2 : K = 0 ∧ bp = false
      · rw [if_pos h2] at h1; cases h1
      · rw [if_neg h2] at h1; exact h1.symm
    have := ref_may i0 i1 i2 i3 i4 i5 i6 i7 x W (side_of hk)
    have e := HBM.out
    rw [if_pos h] at e
    rwa [e] at this
  clear HJ Hs
  obtain ⟨c0, c1, c2, c3, c4, c5, c6, c7⟩ := row8 HQ0.out.box
  go_enter Tryz.func3, Tryz.ntmps3
  go_wp2_with fail
  refine (HORD.out _).mono ?_
  rintro e w1 ⟨rfl, hb⟩
  have HQ1 : Hid (TI B w i0 i1 i2 i3 i4 i5 i6 i7 w1) := HQ0.out.on hb
  clear hb HQ0 c0 c1 c2 c3 c4 c5 c6 c7
  obtain ⟨c0, c1, c2, c3, c4, c5, c6, c7⟩ := row8 HQ1.out.box
  go_wp2_with fail
  refine (HCHK.out _).mono ?_
  rintro e w2 ⟨rfl, hb⟩
  have HQ2 : Hid (TI B w i0 i1 i2 i3 i4 i5 i6 i7 w2) := HQ1.out.on hb
  clear hb HQ1 c0 c1 c2 c3 c4 c5 c6 c7
  go_wp2_with fail
  refine (err_same B w i0 i1 i2 i3 i4 i5 i6 i7 K _ HQ2.out).mono ?_
  rintro e w3 ⟨rfl, hb⟩
  have HQ3 : Hid (TI B w i0 i1 i2 i3 i4 i5 i6 i7 w3) := HQ2.out.on hb
  clear hb HQ2
  go_upto_if 28 with fail
  go_cut [9] from 29 to 30 (fun s9 wx => s9 = .string S ∧ Aside (TI B w i0 i1 i2 i3 i4 i5 i6 i7 wx))
  case first =>
    by_cases h0 : K = 0
    · subst h0
      obtain ⟨c0, c1, c2, c3, c4, c5, c6, c7⟩ := row8 HQ3.out.box
      go_wp2_with fail
      refine (text_any ⟨i0, i1, i2, i3, i4, i5, i6, i7⟩ _ HK.out).mono ?_
      rintro e w4 ⟨rfl, hb⟩
      have HQ4 : Hid (TI B w i0 i1 i2 i3 i4 i5 i6 i7 w4) := HQ3.out.on hb
      clear hb c0 c1 c2 c3 c4 c5 c6 c7
      go_wp2_with fail
      go_meet
      case rel => exact ⟨str_eqv (by rw [← HS.out]; simp), HQ4.out⟩
    · have h0' : (K == 0) = false := by simp [h0]
      go_wp2_with fail
      go_meet
      case rel => exact ⟨str_eqv (by rw [← HS.out, if_neg h0]), HQ3.out⟩
  case rest =>
  obtain ⟨rfl, hQ⟩ := hcut
  clear HQ3
  obtain ⟨c0, c1, c2, c3, c4, c5, c6, c7⟩ := row8 hQ.out.box
  go_wp2_with fail
  refine (HPR.out _ hQ.out.laid).mono ?_
  rintro e w4 ⟨rfl, hb⟩
  have HQ4 : Hid (TI B w i0 i1 i2 i3 i4 i5 i6 i7 w4) := hQ.out.on hb
  clear hb hQ c0 c1 c2 c3 c4 c5 c6 c7
  go_wp2_with fail
  refine (err_same B w i0 i1 i2 i3 i4 i5 i6 i7 K _ HQ4.out).mono ?_
  rintro e w5 ⟨rfl, hb⟩
  have HQ5 : Hid (TI B w i0 i1 i2 i3 i4 i5 i6 i7 w5) := HQ4.out.on hb
  clear hb HQ4
  go_wp2_with fail
  refine (HRD.out _).mono ?_
  rintro e w6 ⟨rfl, hb⟩
  have HQ6 : Hid (TI B w i0 i1 i2 i3 i4 i5 i6 i7 w6) := HQ5.out.on hb
  clear hb HQ5
  have hal6 : Below w6.heap.size w6 (w6.alloc (.cells #[.int .i64 j0, .int .i64 j1, .int .i64 j2, .int .i64 j3, .int .i64 j4, .int .i64 j5, .int .i64 j6, .int .i64 j7] 23)) := (Below.refl _ _).alloc (Nat.le_refl _) _
  have HQ7 : Hid (TI B w i0 i1 i2 i3 i4 i5 i6 i7 (w6.alloc (.cells #[.int .i64 j0, .int .i64 j1, .int .i64 j2, .int .i64 j3, .int .i64 j4, .int .i64 j5, .int .i64 j6, .int .i64 j7] 23))) := HQ6.out.on hal6
  have HX7 : Hid (Row8 (w6.alloc (.cells #[.int .i64 j0, .int .i64 j1, .int .i64 j2, .int .i64 j3, .int .i64 j4, .int .i64 j5, .int .i64 j6, .int .i64 j7] 23)) w6.heap.size j0 j1 j2 j3 j4 j5 j6 j7) := heap_alloc_new w6 _
  clear hal6 HQ6
  go_wp2_with fail
  refine (HPA.out _ HQ7.out.laid HQ7.out.err).mono ?_
  rintro e w8 ⟨rfl, hb⟩
  have HQ8 : Hid (TI B w i0 i1 i2 i3 i4 i5 i6 i7 w8) := HQ7.out.on hb
  have HX8 : Hid (Row8 w8 w6.heap.size j0 j1 j2 j3 j4 j5 j6 j7) := HX7.out.on hb
  clear hb HQ7 HX7
  generalize w6.heap.size = X at *
  have hal8 : Below w8.heap.size w8 (w8.alloc (.cells #[.int .i64 j0, .int .i64 j1, .int .i64 j2, .int .i64 j3, .int .i64 j4, .int .i64 j5, .int .i64 j6, .int .i64 j7] 23)) := (Below.refl _ _).alloc (Nat.le_refl _) _
  have HQ9 : Hid (TI B w i0 i1 i2 i3 i4 i5 i6 i7 (w8.alloc (.cells #[.int .i64 j0, .int .i64 j1, .int .i64 j2, .int .i64 j3, .int .i64 j4, .int .i64 j5, .int .i64 j6, .int .i64 j7] 23))) := HQ8.out.on hal8
  have HX9 : Hid (Row8 (w8.alloc (.cells #[.int .i64 j0, .int .i64 j1, .int .i64 j2, .int .i64 j3, .int .i64 j4, .int .i64 j5, .int .i64 j6, .int .i64 j7] 23)) X j0 j1 j2 j3 j4 j5 j6 j7) := HX8.out.on hal8
  have HY9 : Hid (Row8 (w8.alloc (.cells #[.int .i64 j0, .int .i64 j1, .int .i64 j2, .int .i64 j3, .int .i64 j4, .int .i64 j5, .int .i64 j6, .int .i64 j7] 23)) w8.heap.size j0 j1 j2 j3 j4 j5 j6 j7) := heap_alloc_new w8 _
  clear hal8 HQ8 HX8
  go_wp2_with fail
  refine (err_same B w i0 i1 i2 i3 i4 i5 i6 i7 R _ HQ9.out).mono ?_
  rintro e w10 ⟨rfl, hb⟩
  have HQ10 : Hid (TI B w i0 i1 i2 i3 i4 i5 i6 i7 w10) := HQ9.out.on hb
  have HX10 : Hid (Row8 w10 X j0 j1 j2 j3 j4 j5 j6 j7) := HX9.out.on hb
  have HY10 : Hid (Row8 w10 w8.heap.size j0 j1 j2 j3 j4 j5 j6 j7) := HY9.out.on hb
  clear hb HQ9 HX9 HY9
  generalize w8.heap.size = Y at *
  go_wp2_with fail
  refine (ref_price x _).mono ?_
  rintro e w11 ⟨rfl, rfl⟩
  rw [HBP.out]
  go_upto_region 12 with fail
  go_cut [59] from 54 to 59 (fun s59 wx => s59 = .bool (decide (K = 0 ∧ bp = false)) ∧ wx = w11)
  case first =>
    by_cases h0 : K = 0
    · subst h0
      go_wp2_with fail
      go_meet
      case rel => exact ⟨bool_eqv (by cases bp <;> simp), rfl⟩
    · have h0' : (K == 0) = false := by simp [h0]
      go_wp2_with fail
      go_meet
      case rel => exact ⟨bool_eqv (by simp [h0]), rfl⟩
  case rest =>
  obtain ⟨rfl, rfl⟩ := hcut
  go_upto_if 59 with fail
  go_cut [7] from 59 to 59 (fun s7 wx => s7 = .int .i64 M ∧ wx = wc)
  case first =>
    by_cases h0 : K = 0 ∧ bp = false
    · have h0' : decide (K = 0 ∧ bp = false) = true := by rw [decide_eq_true_eq]; exact h0
      have hF : M = 1 := by rw [HM.out.2, if_pos h0]
      rw [h0']
      clear h0 h0'
      go_wp2_with fail
      go_meet
      case rel => exact ⟨int_eqv hF.symm, rfl⟩
    · have h0' : decide (K = 0 ∧ bp = false) = false := by rw [decide_eq_false_iff_not]; exact h0
      have hF : M = K := by rw [HM.out.2, if_neg h0]
      rw [h0']
      clear h0 h0'
      go_wp2_with fail
      go_meet
      case rel => exact ⟨int_eqv hF.symm, rfl⟩
  case rest =>
  obtain ⟨rfl, rfl⟩ := hcut
  go_upto_region 14 with fail
  go_cut [18] from 60 to 66 (fun s18 wx => s18 = .bool bm ∧ Aside (TI B w i0 i1 i2 i3 i4 i5 i6 i7 wx ∧ Row8 wx X j0 j1 j2 j3 j4 j5 j6 j7 ∧ Row8 wx Y j0 j1 j2 j3 j4 j5 j6 j7))
  case first =>
    by_cases h0 : M = 0
    · subst h0
      obtain ⟨c0, c1, c2, c3, c4, c5, c6, c7⟩ := row8 HQ10.out.box
      go_wp2_with fail
      refine (HMAY.out (by first | rfl | trivial) _).mono ?_
      rintro e w12 ⟨rfl, hb⟩
      have HFIN : Hid (TI B w i0 i1 i2 i3 i4 i5 i6 i7 w12 ∧ Row8 w12 X j0 j1 j2 j3 j4 j5 j6 j7 ∧ Row8 w12 Y j0 j1 j2 j3 j4 j5 j6 j7) := ⟨HQ10.out.on hb, HX10.out.on hb, HY10.out.on hb⟩
      clear hb c0 c1 c2 c3 c4 c5 c6 c7
      go_wp2_with fail
      go_meet
      case rel => exact ⟨rfl, HFIN.out⟩
    · have h0' : (M == 0) = false := by simp [h0]
      have hb0 : bm = false := by rw [← HBM.out, if_neg h0]
      go_wp2_with fail
      go_meet
      case rel => exact ⟨bool_eqv hb0.symm, HQ10.out, HX10.out, HY10.out⟩
  case rest =>
  obtain ⟨rfl, hF⟩ := hcut
  have HQ13 : Hid (TI B w i0 i1 i2 i3 i4 i5 i6 i7 wc) := hF.out.1
  have HX13 : Hid (Row8 wc X j0 j1 j2 j3 j4 j5 j6 j7) := hF.out.2.1
  have HY13 : Hid (Row8 wc Y j0 j1 j2 j3 j4 j5 j6 j7) := hF.out.2.2
  clear hF HQ10 HX10 HY10
  obtain ⟨c0, c1, c2, c3, c4, c5, c6, c7⟩ := row8 HQ13.out.box
  go_wp2_with fail
  refine (HME.out _).mono ?_
  rintro e w14 ⟨rfl, hb⟩
  have HQ14 : Hid (TI B w i0 i1 i2 i3 i4 i5 i6 i7 w14) := HQ13.out.on hb
  have HX14 : Hid (Row8 w14 X j0 j1 j2 j3 j4 j5 j6 j7) := HX13.out.on hb
  have HY14 : Hid (Row8 w14 Y j0 j1 j2 j3 j4 j5 j6 j7) := HY13.out.on hb
  clear hb HQ13 HX13 HY13 c0 c1 c2 c3 c4 c5 c6 c7
  go_wp2_with fail
  refine (err_same B w i0 i1 i2 i3 i4 i5 i6 i7 M _ HQ14.out).mono ?_
  rintro e w15 ⟨rfl, hb⟩
  obtain ⟨y0, y1, y2, y3, y4, y5, y6, y7⟩ := row8 (HX14.out.on hb)
  obtain ⟨z0, z1, z2, z3, z4, z5, z6, z7⟩ := row8 (HY14.out.on hb)
  have HI15 : Hid (told.Inv B w15) := HQ14.out.inv.on hb
  clear hb HQ14 HX14 HY14
  go_wp2_with fail
  go_ret
  exact ⟨rfl, HI15.out⟩

end Go.Proofs.YtpcomgnglidhhaaGreatDoor.ord
