/- Contracts over this seat's translation: package wire's Pack. -/
import Derived.Test.YtndkabnmffgebaaDoorWirUnp
import Derived.Test.YtndkabnmffgebaaDoorBokBld
namespace Go.Proofs.YtndkabnmffgebaaDoor.wir
open Go.RowKit
open Go.Proofs.YtndkabnmffgebaaDoor.bld (Bld byte_any)
open Go.Proofs.YtndkabnmffgebaaDoor.ord (errV errV_zero errV_of)

theorem bld_keeps {B b : Nat} {l : List Value} {w w' : World} (h : Bld B b l w) (hb : Below w.heap.size w w') : Bld B b l w' := by
  have key : ∀ p, Lib.BuilderAt 65 5 B b p l w → Lib.BuilderAt 65 5 B b p l w' := by
    rintro p ⟨h1, v, h2, h3, h4⟩
    refine ⟨h1, v, (hb.block b (Array.getElem?_eq_some_iff.1 h2).1).trans h2, ?_, h4⟩
    refine ⟨h3.1, ?_⟩
    rcases h3.2 with hn | ⟨g, cap, cur, rfl, hB, hgg, rest⟩
    · exact .inl hn
    · exact .inr ⟨g, cap, cur, rfl, hB, (hb.block g (Array.getElem?_eq_some_iff.1 hgg).1).trans hgg, rest⟩
  rcases h with h | h
  · exact .inl (key _ h)
  · exact .inr (key _ h)
theorem firstE_take : ∀ {l : List (List Int)}, firstE l = 0 → ∀ k, firstE (l.take k) = 0
  | [], _, k => by simp [firstE]
  | x :: r, h, 0 => rfl
  | x :: r, h, k + 1 => by
    have h' : (if cchk x = 0 then firstE r else cchk x) = 0 := h
    have : cchk x = 0 := by
      by_cases hx : cchk x = 0
      · exact hx
      · rw [if_neg hx] at h'; exact absurd h' hx
    rw [if_pos this] at h'
    show (if cchk x = 0 then firstE (r.take k) else cchk x) = 0
    rw [if_pos this]
    exact firstE_take h' k
/-- The bytes that Pack tells. -/
def packS (l : List (List Int)) : ByteArray := if packE l = 0 then tx (packB l) else ⟨#[]⟩
/-- Of commands, the first so many without a fault. -/
def okTo (l : List (List Int)) (k : Nat) : Prop := firstE (l.take k) = 0 ∧ firstE (l.drop k) = firstE l
theorem okTo_succ {l : List (List Int)} {k : Nat} (hk : k < l.length) (h : okTo l k) (hc : cchk (l[k]!) = 0) : okTo l (k + 1) := by
  refine ⟨?_, ?_⟩
  · rw [List.take_succ_eq_append_getElem hk, ← getW _ _ hk]
    generalize l[k]! = x at *
    have := h.1
    generalize l.take k = m at *
    induction m with
    | nil => show (if cchk x = 0 then 0 else cchk x) = 0; rw [if_pos hc]
    | cons a r ih =>
      have h' : (if cchk a = 0 then firstE r else cchk a) = 0 := this
      have ha : cchk a = 0 := by
        by_cases hx : cchk a = 0
        · exact hx
        · rw [if_neg hx] at h'; exact absurd h' hx
      rw [if_pos ha] at h'
      show (if cchk a = 0 then firstE (r ++ [x]) else cchk a) = 0
      rw [if_pos ha]
      exact ih h'
  · have := firstE_drop hk
    rw [if_pos hc, h.2] at this
    exact this.symm
theorem packB_take {l : List (List Int)} {k : Nat} (hk : k < l.length) : packB (l.take (k + 1)) = packB (l.take k) ++ one (l[k]!) := by
  rw [List.take_succ_eq_append_getElem hk, packB_append, getW _ _ hk]
  simp [packB]
theorem bytes_are (l : List UInt8) : Lib.byteCells l = bCs l := rfl
theorem str_are (l : List UInt8) : Lib.strCells (tx l) = bCs l := rfl

set_option maxRecDepth 100000 in
set_option maxHeartbeats 400000 in
theorem pack_full (v : Value) (zs : List (List Int)) (w : World) (h : CX w v zs) (hn : 400 < zs.length) :
    Calls Tryd.prog 11 #[v] w fun e w' => e = .returned (.tuple #[.string ⟨#[]⟩, .iface 49 (.int .i64 4)]) ∧ Below w.heap.size w w' := by
  obtain ⟨q, c, rfl, hm⟩ := h.form
  generalize zs.length = n at *
  have hgt : (400 : Int) < (n : Int) := by omega
  go_enter Tryd.func11, Tryd.ntmps11
  go_wp2_with fail
  go_ret2
  exact ⟨rfl, Below.refl _ _⟩

set_option maxRecDepth 100000 in
set_option maxHeartbeats 400000 in
theorem pack_walk (v : Value) (zs : List (List Int)) (w : World) (h : CX w v zs) (hn : zs.length ≤ 400) :
    Calls Tryd.prog 11 #[v] w fun e w' => e = .returned (.tuple #[.string (packS zs), errV (packE zs)]) ∧ Below w.heap.size w w' := by
  obtain ⟨q, c, rfl, -⟩ := h.form
  have HX := hidW h
  obtain ⟨E, hE⟩ : ∃ E, E = packE zs := ⟨_, rfl⟩
  obtain ⟨S, hS⟩ : ∃ S, S = packS zs := ⟨_, rfl⟩
  have HE : Hid (E = firstE zs) := hidW (by rw [hE, packE, if_neg (by omega)])
  have HS : Hid (S = if E = 0 then tx (packB zs) else ⟨#[]⟩) := hidW (by rw [hS, hE]; rfl)
  rw [← hE, ← hS]
  obtain ⟨n, hN⟩ : ∃ n, n = zs.length := ⟨_, rfl⟩
  have HN := hidW (And.intro hN hn)
  rw [← hN]
  obtain ⟨X, hX⟩ : ∃ X, X = w.heap.size := ⟨_, rfl⟩
  obtain ⟨V, hV⟩ : ∃ V, V = w.alloc (.cells #[.pointer none, .slice none 0 0] 65) := ⟨_, rfl⟩
  have HV : Hid (Bld X X [] V ∧ Below X w V) := by
    subst hV hX
    exact ⟨Lib.fresh_isBuilder _ _ w, (Below.refl _ _).alloc (Nat.le_refl _) _⟩
  have HXX := hidW hX
  have hle : ¬ ((400 : Int) < (n : Int)) := by omega
  rw [← hX]
  clear h hE hS hn hN
  go_enter Tryd.func11, Tryd.ntmps11
  go_upto_region 4 with fail
  simp only [← hX]
  simp only [← hV]
  clear hX hV
  go_wp2_with fail
  go_loopg [6, 7, 8, 15] n (fun gg s6 s7 s8 s15 wx => ∃ k : Nat, k ≤ n ∧ n - k ≤ gg ∧ s15 = .int .i64 k ∧ Aside (okTo zs k ∧ Bld X X (bCs (packB (zs.take k))) wx ∧ Below X w wx))
  case atStart => exact ⟨0, Nat.zero_le _, by omega, rfl, ⟨rfl, rfl⟩, HV.out.1, HV.out.2⟩
  case round =>
    obtain ⟨k, hk, hg, rfl, HA⟩ := hrel
    have HA2 := hidW HA.out
    clear HA
    by_cases hlt : k < n
    · have hltz : (k : Int) < (n : Int) := by omega
      have hin1 : ¬ ((k : Int) < 0) := by omega
      have hlz : k < zs.length := by rw [← HN.out.1]; exact hlt
      obtain ⟨g, off, rfl, hgl, hrg, hx11⟩ := (HX.out.below (by rw [← HXX.out]; exact HA2.out.2.2)).at hlz
      obtain ⟨x, hx⟩ : ∃ x, x = zs[k]! := ⟨_, rfl⟩
      rw [← hx] at hrg hx11
      have HXK := hidW hx
      have HX11 := hidW hx11
      obtain ⟨c0, c1, c2, c3, c4, c5, c6, c7, c8, c9, c10, hxx⟩ := list11' hx11
      have HXXX := hidW hxx
      rw [hxx] at hrg
      have d0 := hrg 0 _ rfl
      have d1 := hrg 1 _ rfl
      have d2 := hrg 2 _ rfl
      have d3 := hrg 3 _ rfl
      have d4 := hrg 4 _ rfl
      have d5 := hrg 5 _ rfl
      have d6 := hrg 6 _ rfl
      have d7 := hrg 7 _ rfl
      have d8 := hrg 8 _ rfl
      have d9 := hrg 9 _ rfl
      have d10 := hrg 10 _ rfl
      simp only [Nat.add_zero] at d0
      have hwk : wrap64 ((k : Int) + 1) = ((k + 1 : Nat) : Int) := by have := HN.out; unfold wrap64; omega
      have HK := hidW (And.intro hwk (And.intro hlt hg))
      clear hx hx11 hxx hrg hwk hg hk
      go_upto_region 7 with fail
      obtain ⟨Y, hY⟩ : ∃ Y, Y = wr.heap.size := ⟨_, rfl⟩
      obtain ⟨V2, hV2⟩ : ∃ V2, V2 = wr.alloc (.cells #[.int .i64 c0, .int .i64 c1, .int .i64 c2, .int .i64 c3, .int .i64 c4, .int .i64 c5, .int .i64 c6, .int .i64 c7, .int .i64 c8, .int .i64 c9, .int .i64 c10] 25) := ⟨_, rfl⟩
      have HV2 : Hid (Bld X X (bCs (packB (zs.take k))) V2 ∧ Below X w V2 ∧ X ≤ V2.heap.size) := by
        have hba : Below wr.heap.size wr V2 := by rw [hV2]; exact (Below.refl _ _).alloc (Nat.le_refl _) _
        have h1 := HA2.out.2.2.trans (hba.mono (by have := HA2.out.2.2.size; rw [HXX.out]; exact this))
        exact ⟨bld_keeps HA2.out.2.1 hba, h1, by rw [HXX.out]; exact h1.size⟩
      have hcm : Cmd V2 Y [c0, c1, c2, c3, c4, c5, c6, c7, c8, c9, c10] := by rw [hV2, hY]; exact heap_alloc_new _ _
      obtain ⟨a0, a1, a2, a3, a4, a5, a6, a7, a8, a9, a10⟩ := hcm.row
      simp only [← hY]
      simp only [← hV2]
      clear hY hV2 hcm d0 d1 d2 d3 d4 d5 d6 d7 d8 d9 d10
      have HC1 := command_any x HX11.out V2
      have HC2 : Hid (Calls Tryd.prog 8 #[.agg #[.int .i64 c0, .int .i64 c1, .int .i64 c2, .int .i64 c3, .int .i64 c4, .int .i64 c5, .int .i64 c6, .int .i64 c7, .int .i64 c8, .int .i64 c9, .int .i64 c10]] V2 fun e w' => e = .returned (.tuple #[.string (cmdS x), errV (cchk x)]) ∧ Below V2.heap.size V2 w') := by
        rw [HXXX.out] at HC1 ⊢
        exact HC1
      clear HC1
      by_cases hc : cchk x = 0
      rotate_left
      · have hEx : E = cchk x := by
          rw [HE.out, ← HA2.out.1.2, firstE_drop hlz, ← HXK.out, if_neg hc]
        have HEE := hidW (And.intro hEx hc)
        have HSS : Hid (S = ⟨#[]⟩) := hidW (by rw [HS.out, if_neg (by rw [hEx]; exact hc)])
        have HC3 : Hid (Calls Tryd.prog 8 #[.agg #[.int .i64 c0, .int .i64 c1, .int .i64 c2, .int .i64 c3, .int .i64 c4, .int .i64 c5, .int .i64 c6, .int .i64 c7, .int .i64 c8, .int .i64 c9, .int .i64 c10]] V2 fun e w' => e = .returned (.tuple #[.string ⟨#[]⟩, .iface 49 (.int .i64 (cchk x))]) ∧ Below V2.heap.size V2 w') := by
          have := HC2.out
          rw [cmdS, if_neg hc, errV_of hc] at this
          exact this
        clear HC2 hc hEx
        go_wp2_with (go_at_call 8; refine HC3.out.mono ?_; rintro e w3 ⟨rfl, hb3⟩)
        go_ret2
        exact ⟨by rw [HSS.out, HEE.out.1, errV_of HEE.out.2]; rfl, HV2.out.2.1.trans (hb3.mono HV2.out.2.2)⟩
      · have HCC := hidW hc
        have hsz : ∃ m : Nat, (tx (enc x)).size = m ∧ m ≤ 18 := ⟨_, rfl, by rw [tx_size, enc_length HX11.out hc]; exact lenE_small _⟩
        obtain ⟨m, hm, hm18⟩ := hsz
        have HM := hidW (And.intro hm hm18)
        have HC3 : Hid (Calls Tryd.prog 8 #[.agg #[.int .i64 c0, .int .i64 c1, .int .i64 c2, .int .i64 c3, .int .i64 c4, .int .i64 c5, .int .i64 c6, .int .i64 c7, .int .i64 c8, .int .i64 c9, .int .i64 c10]] V2 fun e w' => e = .returned (.tuple #[.string (tx (enc x)), .nilIface]) ∧ Below V2.heap.size V2 w') := by
          have := HC2.out
          rw [cmdS, if_pos hc, hc, errV_zero] at this
          exact this
        clear HC2 hc
        obtain ⟨t, ht⟩ : ∃ t, t = tx (enc x) := ⟨_, rfl⟩
        have HT := hidW ht
        rw [← ht] at HC3 hm
        have hmz : (t.size : Int) = (m : Int) := by rw [hm]
        have hpl : (packB (zs.take k)).length ≤ 7600 := by
          have := packB_length (zs.take k) (fun y hy => HX.out.1 y (List.mem_of_mem_take hy)) HA2.out.1.1
          rw [List.length_take] at this
          omega
        have HPL := hidW hpl
        clear ht hpl hm
        go_upto_region 10 with (go_at_call 8; refine HC3.out.mono ?_; rintro e w3 ⟨rfl, hb3⟩)
        have HW3 : Hid (Bld X X (bCs (packB (zs.take k))) w3 ∧ Below X w w3 ∧ X ≤ w3.heap.size) := ⟨bld_keeps HV2.out.1 hb3, HV2.out.2.1.trans (hb3.mono HV2.out.2.2), by have := hb3.size; have := HV2.out.2.2; omega⟩
        clear hb3 a0 a1 a2 a3 a4 a5 a6 a7 a8 a9 a10
        have HB1 := hidW (byte_any X X (bCs (packB (zs.take k))) (m : Int) w3 HW3.out.1 (by rw [bCs_length]; have := HPL.out; omega) HW3.out.2.2)
        go_upto_region 11 with (go_at_call 26; refine HB1.out.mono ?_; rintro e w4 ⟨rfl, hd4, hb4, -⟩)
        have HW4 : Hid (Bld X X (bCs (packB (zs.take k)) ++ [.int .u8 (m : Int)]) w4 ∧ Below X w w4 ∧ X ≤ w4.heap.size) := ⟨hd4, HW3.out.2.1.trans hb4, by have := hb4.size; have := HW3.out.2.2; omega⟩
        have hln : (bCs (packB (zs.take k)) ++ [Value.int .u8 (m : Int)]).length + t.size ≤ 140737488355328 := by
          rw [List.length_append, bCs_length]
          have := HPL.out
          simp only [List.length_cons, List.length_nil]
          omega
        have HB2 := hidW (bld.write_any X X (bCs (packB (zs.take k)) ++ [Value.int .u8 (m : Int)]) t w4 hd4 hln HW4.out.2.2)
        clear hd4 hb4 hln
        go_wp2_with (go_at_call 27; refine HB2.out.mono ?_; rintro e w5 ⟨rfl, hd5, hb5, -⟩)
        have HF : Hid (okTo zs (k + 1) ∧ Bld X X (bCs (packB (zs.take (k + 1)))) w5 ∧ Below X w w5) := by
          refine ⟨okTo_succ hlz HA2.out.1 (by rw [← HXK.out]; exact HCC.out), ?_, HW4.out.2.1.trans hb5⟩
          have e1 : UInt8.ofNat (enc x).length = UInt8.ofNat m := by rw [← HM.out.1, tx_size]
          have e2 : ((UInt8.ofNat m).toNat : Int) = (m : Int) := by rw [UInt8.toNat_ofNat']; have := HM.out.2; omega
          rw [packB_take hlz, bCs_append, ← HXK.out]
          have e3 : bCs (one x) = .int .u8 (m : Int) :: Lib.strCells t := by
            show bCs (UInt8.ofNat (enc x).length :: enc x) = _
            rw [e1, HT.out, str_are]
            show Value.int .u8 ((UInt8.ofNat m).toNat : Int) :: bCs (enc x) = _
            rw [e2]
          rw [e3]
          rw [List.append_assoc] at hd5
          exact hd5
        clear hd5 hb5
        go_wp2_with fail
        go_roundg (n - (k + 1))
        case measure => have := HK.out; omega
        case rel => exact ⟨k + 1, HK.out.2.1, Nat.le_refl _, by first | exact congrArg (Value.int .i64) HK.out.1 | go_num, HF.out⟩
    · obtain rfl : k = n := by omega
      have hltz : ¬ (k : Int) < (k : Int) := by omega
      have ht : zs.take k = zs := List.take_of_length_le (by rw [← HN.out.1]; exact Nat.le_refl _)
      have hE0 : E = 0 := by
        rw [HE.out]
        have := HA2.out.1.1
        rw [ht] at this
        exact this
      have HE0 := hidW hE0
      have HS0 : Hid (S = tx (packB zs)) := hidW (by rw [HS.out, if_pos hE0])
      have hbl := HA2.out.2.1
      rw [ht] at hbl
      have HSTR := hidW (Tryd.Builder_String_any X X (packB zs) wr hbl (by rw [HXX.out]; exact HA2.out.2.2.size))
      clear hk hg ht hE0 hbl
      go_wp2_with (go_at_call 28; refine HSTR.out.mono ?_; rintro e w3 ⟨rfl, hb3⟩)
      go_ret2
      exact ⟨by rw [HS0.out, HE0.out, errV_zero]; rfl, HA2.out.2.2.trans hb3⟩
/-- Pack: the error, or the bytes. -/
theorem pack_any (v : Value) (zs : List (List Int)) (w : World) (h : CX w v zs) :
    Calls Tryd.prog 11 #[v] w fun e w' => e = .returned (.tuple #[.string (packS zs), errV (packE zs)]) ∧ Below w.heap.size w w' := by
  by_cases hn : zs.length ≤ 400
  · exact pack_walk v zs w h hn
  · refine (pack_full v zs w h (by omega)).mono ?_
    rintro e w' ⟨rfl, hb⟩
    have e4 : packE zs = 4 := by rw [packE, if_pos (by omega)]
    exact ⟨by rw [packS, e4]; rfl, hb⟩
end Go.Proofs.YtndkabnmffgebaaDoor.wir
