/- Contracts over this seat's translation: a side as text: book.lines. Contracts over this seat's translation: book.lines at a side that is right. -/
import Derived.Test.YtmgodofnhjmbfaaGreatDoorBokPrt
import Derived.Test.YtmgodofnhjmbfaaGreatDoorBokRests
namespace Go.Proofs.YtmgodofnhjmbfaaGreatDoor.bld
open Go.RowKit Go.Proofs.YtmgodofnhjmbfaaGreatDoor.spn Go.Proofs.YtmgodofnhjmbfaaGreatDoor.que Go.Proofs.YtmgodofnhjmbfaaGreatDoor.sid Go.Proofs.YtmgodofnhjmbfaaGreatDoor.bok

/-- The rests of a level as text, and a level, and a side. -/
def zTxt (zs : List R) : List UInt8 := zs.flatMap fun r => [32] ++ rTxt r
def hTxt (wd : List UInt8) (p : Int) : List UInt8 := wd ++ [32] ++ dec p
def lTxt (wd : List UInt8) (l : L) : List UInt8 := hTxt wd l.price ++ zTxt l.rests ++ [10]
def sTxt (wd : List UInt8) (ls : List L) : List UInt8 := ls.flatMap (lTxt wd)
theorem zTxt_len : ∀ {zs : List R}, (∀ r ∈ zs, rchk r = 0) → (zTxt zs).length ≤ zs.length * 18
  | [], _ => by simp [zTxt]
  | r :: t, h => by
    have h1 := zTxt_len (zs := t) (fun x hx => h x (by simp [hx]))
    have h2 := rTxt_len (h r (by simp))
    unfold zTxt at h1 ⊢
    rw [List.flatMap_cons, List.length_append, List.length_append, List.length_cons, List.length_cons]
    simp only [List.length_nil]
    omega
theorem lTxt_len {wd : List UInt8} {l : L} (hw : wd.length ≤ 10) (hl : lchk l = 0) : (lTxt wd l).length ≤ 1100 := by
  obtain ⟨hp, -, hq⟩ := lchk_zero hl
  obtain ⟨h60, hg⟩ := (qchk_zero _).1 hq
  have h1 := zTxt_len hg.1
  have h2 := dec_short (n := l.price) (by omega) (by omega)
  unfold lTxt hTxt
  simp only [List.length_append, List.length_cons, List.length_nil]
  omega
theorem sTxt_len {wd : List UInt8} (hw : wd.length ≤ 10) : ∀ {ls : List L}, (∀ l ∈ ls, lchk l = 0) → (sTxt wd ls).length ≤ ls.length * 1100
  | [], _ => by simp [sTxt]
  | l :: t, h => by
    have h1 := sTxt_len hw (ls := t) (fun x hx => h x (by simp [hx]))
    have h2 := lTxt_len (l := l) hw (h l (by simp))
    unfold sTxt at h1 ⊢
    rw [List.flatMap_cons, List.length_append, List.length_cons]
    omega
theorem sTxt_take {wd : List UInt8} {ls : List L} {k : Nat} (hk : k < ls.length) : sTxt wd (ls.take (k + 1)) = sTxt wd (ls.take k) ++ lTxt wd ls[k]! := by
  unfold sTxt
  rw [ltake_at hk, List.flatMap_append]
  simp
theorem zTxt_take {zs : List R} {k : Nat} (hk : k < zs.length) : zTxt (zs.take (k + 1)) = zTxt (zs.take k) ++ ([32] ++ rTxt zs[k]!) := by
  unfold zTxt
  rw [take_at hk, List.flatMap_append]
  simp
theorem cells_app (a b : List UInt8) : Lib.byteCells a ++ Lib.strCells ⟨b.toArray⟩ = Lib.byteCells (a ++ b) := by
  rw [Lib.strCells_toArray]
  unfold Lib.byteCells
  rw [List.map_append]
theorem cells_nl (a : List UInt8) : Lib.byteCells a ++ [.int .u8 10] = Lib.byteCells (a ++ [10]) := by
  unfold Lib.byteCells
  rw [List.map_append]
  rfl
theorem cells_len (a : List UInt8) : (Lib.byteCells a).length = a.length := by unfold Lib.byteCells; simp
theorem size_str (a : List UInt8) : (⟨a.toArray⟩ : ByteArray).size = a.length := by simp [ByteArray.size]
theorem txt_head (x y : List UInt8) : ((⟨x.toArray⟩ : ByteArray) ++ ⟨#[32]⟩ ++ ⟨y.toArray⟩) = ⟨(x ++ [32] ++ y).toArray⟩ := by
  rw [← app_str, ← app_str]
theorem txt_one (y : List UInt8) : ((⟨#[32]⟩ : ByteArray) ++ ⟨y.toArray⟩) = ⟨([32] ++ y).toArray⟩ := by
  rw [← app_str]
/-- A builder stays while only what is new is written. -/
theorem bld_below {B b : Nat} {l : List Value} {w w' : World} (h : Bld B b l w) (hb : Below w.heap.size w w') : Bld B b l w' := by
  have one : ∀ p, Lib.BuilderAt 92 5 B b p l w → Lib.BuilderAt 92 5 B b p l w' := by
    rintro p ⟨h1, v, h2, h3, h4⟩
    refine ⟨h1, v, (hb.block b (Array.getElem?_eq_some_iff.1 h2).1).trans h2, ⟨h3.1, ?_⟩, h4⟩
    rcases h3.2 with hn | ⟨g, cap, cur, e1, e2, e3, e4⟩
    · exact .inl hn
    · exact .inr ⟨g, cap, cur, e1, e2, (hb.block g (Array.getElem?_eq_some_iff.1 e3).1).trans e3, e4⟩
  exact h.imp (one _) (one _)
theorem bld_new (w : World) : Bld w.heap.size w.heap.size (Lib.byteCells []) (w.alloc (.cells #[.pointer none, .slice none 0 0] 92)) :=
  .inl ⟨Nat.le_refl _, .slice none 0 0, heap_alloc_new w _, ⟨rfl, .inl ⟨rfl, rfl⟩⟩, by simp [Value.ownBlock]⟩
end Go.Proofs.YtmgodofnhjmbfaaGreatDoor.bld
namespace Go.Proofs.YtmgodofnhjmbfaaGreatDoor.bld
open Go.RowKit Go.Proofs.YtmgodofnhjmbfaaGreatDoor.spn Go.Proofs.YtmgodofnhjmbfaaGreatDoor.que Go.Proofs.YtmgodofnhjmbfaaGreatDoor.sid Go.Proofs.YtmgodofnhjmbfaaGreatDoor.bok

theorem wrapSuccL (k n : Nat) (h : k < n) (hn : n ≤ 9223372036854775807) : wrap64 ((k : Int) + 1) = ((k + 1 : Nat) : Int) := by unfold wrap64; omega
theorem hidB {p : Prop} (h : p) : Hid p := h
set_option maxRecDepth 100000 in
set_option maxHeartbeats 2000000 in
theorem lines_any (wd : List UInt8) (hwd : wd.length ≤ 10) (q : Option Addr) (n c : Nat) (ls : List L) (w : World) (hT : Tab w) (h1 : LS w (.slice q n c) ls) (hl : ∀ l ∈ ls, lchk l = 0) (hc : cnt ls ≤ 60) :
    Calls Tryz.prog 31 #[.string ⟨wd.toArray⟩, .slice q n c] w fun e w' => e = .returned (.string ⟨(sTxt wd ls).toArray⟩) ∧ Below w.heap.size w w' := by
  have hne : ∀ l ∈ ls, l.rests ≠ [] := fun l h => (lchk_zero (hl l h)).2.1
  have HN : Hid (n = ls.length) := ls_len h1
  have hn60 : n ≤ 60 := by have := len_le hne; have := HN.out; omega
  have HAT : Hid (∀ kk, kk < ls.length → _) := fun kk hk => ls_at h1 hne hk
  have HGD : Hid (∀ kk, kk < ls.length → lchk ls[kk]! = 0) := fun kk hk => hl _ (by rw [getE _ _ hk]; exact List.getElem_mem hk)
  have HLEN : Hid (∀ kk, (sTxt wd (ls.take kk)).length ≤ 66000) := fun kk => by
    have h2 := sTxt_len hwd (ls := ls.take kk) (fun l h => hl l (List.mem_of_mem_take h))
    have h3 : (ls.take kk).length ≤ 60 := by rw [List.length_take]; have := HN.out; omega
    have h4 := Nat.mul_le_mul_right 1100 h3
    omega
  have HT : Hid (∀ W, Below w.heap.size w W → Tab W) := fun W hW => hT.on hW (Nat.le_refl _)
  have hB : Below w.heap.size w (w.alloc (.cells #[.pointer none, .slice none 0 0] 92)) := (Below.refl _ _).alloc (Nat.le_refl _) _
  have HB0 : Hid (Bld w.heap.size w.heap.size (Lib.byteCells []) (w.alloc (.cells #[.pointer none, .slice none 0 0] 92))) := bld_new w
  have gw : ¬ 9223372036854775807 < wd.length + 1 := by omega
  clear h1 hl hc hne hT
  go_enter Tryz.func31, Tryz.ntmps31
  go_wp2_with fail
  generalize w.alloc (.cells #[.pointer none, .slice none 0 0] 92) = V at *
  have HBV : Hid (Below w.heap.size w V) := hB
  clear hB
  go_loopg [7, 9, 12] n (fun gg _ _ s12 wr => ∃ kk : Nat, kk ≤ n ∧ n - kk ≤ gg ∧ s12 = .int .i64 kk ∧ Aside (Below w.heap.size w wr) ∧ Aside (Bld w.heap.size w.heap.size (Lib.byteCells (sTxt wd (ls.take kk))) wr))
  case atStart => exact ⟨0, Nat.zero_le _, by omega, rfl, HBV.out, HB0.out⟩
  case round =>
    obtain ⟨kk, hkk, hg, rfl, BW, BD⟩ := hrel
    by_cases hlt : kk < n
    · have hltz : (kk : Int) < (n : Int) := by omega
      have hin1 : ¬ ((kk : Int) < 0) := by omega
      have hlz : kk < ls.length := by rw [← HN.out]; exact hlt
      obtain ⟨b, o, rb, ro, rc, hq, hbs, a0, a1, hrs, hrl⟩ := HAT.out kk hlz
      obtain ⟨l, hl⟩ : ∃ l, ls[kk]! = l := ⟨_, rfl⟩
      have hgl := HGD.out kk hlz
      have HTK : Hid (sTxt wd (ls.take (kk + 1)) = sTxt wd (ls.take kk) ++ lTxt wd l) := by rw [← hl]; exact sTxt_take hlz
      obtain ⟨p, zs⟩ := l
      rw [hl] at a0 a1 hrl hgl
      simp only [] at a0 a1 hrl
      subst hq
      clear hl
      have hpp : (1 ≤ p ∧ p ≤ 10000) ∧ zs.length ≤ 60 ∧ ∀ r ∈ zs, rchk r = 0 := by
        obtain ⟨z1, -, z3⟩ := lchk_zero hgl
        obtain ⟨z4, z5⟩ := (qchk_zero _).1 z3
        exact ⟨z1, z4, z5.1⟩
      have HPP := hidB hpp
      obtain ⟨hp, hz60, -⟩ := hpp
      clear hgl
      have c0' := keeps BW.out a0
      have c1' := keeps BW.out a1
      have hbw : b < wr.heap.size := Nat.lt_of_lt_of_le hbs BW.out.size
      have HLI : Hid (Lies w rb ro zs) := hrl
      have HRS : Hid (rb < w.heap.size) := hrs
      have HBA : Hid (Below wr.heap.size wr (wr.alloc (.cells #[.int .i64 p, .slice (some ⟨rb, ro, none⟩) zs.length rc] 34))) := (Below.refl _ _).alloc (Nat.le_refl _) _
      have HXR : Hid ((wr.alloc (.cells #[.int .i64 p, .slice (some ⟨rb, ro, none⟩) zs.length rc] 34)).heap[wr.heap.size]? = some (.cells #[.int .i64 p, .slice (some ⟨rb, ro, none⟩) zs.length rc] 34 (0, 0))) := heap_alloc_new wr _
      obtain ⟨x, hx⟩ : ∃ x, dec p = x := ⟨_, rfl⟩
      have HX := hidB hx
      have lx : x.length ≤ 5 := by rw [← hx]; exact dec_short (by omega) (by omega)
      have gx : ¬ 9223372036854775807 < wd.length + 1 + x.length := by omega
      have HLX := hidB lx
      have HPB := hidB hp
      have HIT : Hid (Calls Tryz.prog 49 #[.int .i64 p] (wr.alloc (.cells #[.int .i64 p, .slice (some ⟨rb, ro, none⟩) zs.length rc] 34)) fun e w' => e = .returned (.string ⟨x.toArray⟩) ∧ Below (wr.alloc (.cells #[.int .i64 p, .slice (some ⟨rb, ro, none⟩) zs.length rc] 34)).heap.size (wr.alloc (.cells #[.int .i64 p, .slice (some ⟨rb, ro, none⟩) zs.length rc] 34)) w') := by
        rw [← hx]
        exact itoa_any p _ (HT.out _ (BW.out.trans (HBA.out.mono BW.out.size))) (by omega) (by omega)
      obtain ⟨PRE, hPRE⟩ : ∃ PRE, sTxt wd (ls.take kk) ++ (wd ++ [32] ++ x) = PRE := ⟨_, rfl⟩
      have HPRE := hidB hPRE
      have HPL : Hid (PRE.length ≤ 66100) := by
        show PRE.length ≤ 66100
        rw [← hPRE]
        have h2 := HLEN.out kk
        simp only [List.length_append, List.length_cons, List.length_nil]
        omega
      have HLI2 : Hid (lTxt wd ⟨p, zs⟩ = (wd ++ [32] ++ x) ++ zTxt zs ++ [10]) := by rw [← hx]; rfl
      have HWD := hidB hwd
      clear hx hrl a0 a1 hrs lx hp hPRE
      go_wp2_with fail
      refine HIT.out.mono ?_
      rintro e W2 ⟨rfl, hb2⟩
      have HB2 := hidB (HBA.out.trans (hb2.mono HBA.out.size))
      have HX2 := hidB ((hb2.block wr.heap.size (Array.getElem?_eq_some_iff.1 HXR.out).1).trans HXR.out)
      have HW2 := hidB (BW.out.trans (HB2.out.mono BW.out.size))
      have HD2 := hidB (bld_below BD.out HB2.out)
      clear hb2 HIT HBA HXR c0' c1'
      go_wp2_with fail
      rw [txt_head]
      refine (write_any w.heap.size w.heap.size _ _ W2 HD2.out (by rw [cells_len, size_str]; have h2 := HLEN.out kk; have h3 := HLX.out; have h4 := HWD.out; simp only [List.length_append, List.length_cons, List.length_nil]; omega) HW2.out.size).mono ?_
      rintro e W3 ⟨rfl, hD3, hb3, hk3⟩
      have hXne : w.heap.size < wr.heap.size := by
        rcases BD.out with h | h <;> exact h.lt
      have hX3 := hk3 wr.heap.size _ HX2.out (fun e => by have h2 := Option.some.inj e; omega) (fun c fz e => by cases e)
      have HD3 : Hid (Bld w.heap.size w.heap.size (Lib.byteCells PRE) W3) := by
        have h := hD3
        rw [cells_app, HPRE.out] at h
        exact h
      have HW3 := hidB (HW2.out.trans (hb3.mono (Nat.le_refl _)))
      obtain ⟨X, hXX⟩ : ∃ X, wr.heap.size = X := ⟨_, rfl⟩
      rw [hXX] at hX3
      have e0 : W3.cell? ⟨X, 0, none⟩ = some (.int .i64 p) := by simp [World.cell?, hX3]
      have e1 : W3.cell? ⟨X, 1, none⟩ = some (.slice (some ⟨rb, ro, none⟩) zs.length rc) := by simp [World.cell?, hX3]
      clear hD3 hb3 hk3 hX3 HD2 HW2 HX2 HB2
      rw [hXX] at *
      clear hXX
      go_wp2_with fail
      go_loopg [9, 26] zs.length (fun g2 _ s26 wi => ∃ jj : Nat, jj ≤ zs.length ∧ zs.length - jj ≤ g2 ∧ s26 = .int .i64 jj ∧ Aside (Below w.heap.size w wi) ∧ Aside (Bld w.heap.size w.heap.size (Lib.byteCells (PRE ++ zTxt (zs.take jj))) wi))
      case atStart => exact ⟨0, Nat.zero_le _, by omega, rfl, HW3.out, (show Bld _ _ (Lib.byteCells (PRE ++ zTxt (zs.take 0))) W3 by have h := HD3.out; simpa [zTxt] using h)⟩
      case round =>
        obtain ⟨jj, hjj, hg2, rfl, BI, BE⟩ := hrel
        by_cases hlt2 : jj < zs.length
        · have hltz2 : (jj : Int) < (zs.length : Int) := by omega
          have hin2 : ¬ ((jj : Int) < 0) := by omega
          obtain ⟨r, hr⟩ : ∃ r, zs[jj]! = r := ⟨_, rfl⟩
          have HRC : Hid (rchk r = 0) := by rw [← hr]; exact HPP.out.2.2 _ (by rw [getE _ _ hlt2]; exact List.getElem_mem hlt2)
          have HZT : Hid (zTxt (zs.take (jj + 1)) = zTxt (zs.take jj) ++ ([32] ++ rTxt r)) := by rw [← hr]; exact zTxt_take hlt2
          obtain ⟨y, hy⟩ : ∃ y, rTxt r = y := ⟨_, rfl⟩
          have HY := hidB hy
          have ly : y.length ≤ 17 := by rw [← hy]; exact rTxt_len HRC.out
          have HZL : Hid ((zTxt (zs.take jj)).length ≤ 1080) := by
            show (zTxt (zs.take jj)).length ≤ 1080
            have h2 := zTxt_len (zs := zs.take jj) (fun r h => HPP.out.2.2 r (List.mem_of_mem_take h))
            have h3 : (zs.take jj).length ≤ 60 := by rw [List.length_take]; omega
            have h4 := Nat.mul_le_mul_right 18 h3
            omega
          obtain ⟨r1, r2, r3, r4, r5⟩ := r
          obtain ⟨a0, a1, a2, a3, a4⟩ := lies_at HLI.out hlt2 hr
          have d0 := keeps BI.out a0
          have d1 := keeps BI.out a1
          have d2 := keeps BI.out a2
          have d3 := keeps BI.out a3
          have d4 := keeps BI.out a4
          have hrw : rb < wr.heap.size := Nat.lt_of_lt_of_le HRS.out BI.out.size
          have HBB : Hid (Below wr.heap.size wr (wr.alloc (.cells #[.int .i64 r1, .int .i64 r2, .int .i64 r3, .int .i64 r4, .int .i64 r5] 26))) := (Below.refl _ _).alloc (Nat.le_refl _) _
          have HPR : Hid (Calls Tryz.prog 50 #[.agg #[.int .i64 r1, .int .i64 r2, .int .i64 r3, .int .i64 r4, .int .i64 r5]] (wr.alloc (.cells #[.int .i64 r1, .int .i64 r2, .int .i64 r3, .int .i64 r4, .int .i64 r5] 26)) fun e w' => e = .returned (.string ⟨y.toArray⟩) ∧ Below (wr.alloc (.cells #[.int .i64 r1, .int .i64 r2, .int .i64 r3, .int .i64 r4, .int .i64 r5] 26)).heap.size (wr.alloc (.cells #[.int .i64 r1, .int .i64 r2, .int .i64 r3, .int .i64 r4, .int .i64 r5] 26)) w') := by
            rw [← hy]
            exact printed_any r1 r2 r3 r4 r5 _ (HT.out _ (BI.out.trans (HBB.out.mono BI.out.size))) HRC.out
          have gy : ¬ 9223372036854775807 < 1 + y.length := by omega
          have gy2 : ¬ 9223372036854775807 < y.length + 1 := by omega
          have HLY := hidB ly
          have es := wrapSuccL jj zs.length hlt2 (by omega)
          clear a0 a1 a2 a3 a4 hr hy ly e0 e1
          go_wp2_with fail
          refine HPR.out.mono ?_
          rintro e W4 ⟨rfl, hb4⟩
          have HB4 := hidB (HBB.out.trans (hb4.mono HBB.out.size))
          have HW4 := hidB (BI.out.trans (HB4.out.mono BI.out.size))
          have HD4 := hidB (bld_below BE.out HB4.out)
          clear hb4 HPR HBB d0 d1 d2 d3 d4
          go_wp2_with fail
          rw [txt_one]
          refine (write_any w.heap.size w.heap.size _ _ W4 HD4.out (by rw [cells_len, size_str]; have h2 := HPL.out; have h3 := HLY.out; have h4 := HZL.out; simp only [List.length_append, List.length_cons, List.length_nil]; omega) HW4.out.size).mono ?_
          rintro e W5 ⟨rfl, hD5, hb5, -⟩
          have HD5 : Hid (Bld w.heap.size w.heap.size (Lib.byteCells (PRE ++ zTxt (zs.take (jj + 1)))) W5) := by
            have h := hD5
            rw [cells_app, List.append_assoc] at h
            rw [HZT.out, HY.out]
            exact h
          have HW5 := hidB (HW4.out.trans (hb5.mono (Nat.le_refl _)))
          clear hD5 hb5 HD4 HW4 HB4
          go_wp2_with fail
          go_roundg (zs.length - (jj + 1))
          case measure => clear es; omega
          case rel => exact ⟨jj + 1, hlt2, Nat.le_refl _, by go_num, HW5.out, HD5.out⟩
        · have hltz2 : ¬ (jj : Int) < (zs.length : Int) := by omega
          have HE5 : Hid (Bld w.heap.size w.heap.size (Lib.byteCells (PRE ++ zTxt zs)) wr) := by
            have h := BE.out
            rw [List.take_of_length_le (by omega)] at h
            exact h
          have HZL : Hid ((zTxt zs).length ≤ 1080) := by
            show (zTxt zs).length ≤ 1080
            have h2 := zTxt_len HPP.out.2.2
            have h4 := Nat.mul_le_mul_right 18 hz60
            omega
          have es := wrapSuccL kk n hlt (by omega)
          go_wp2_with fail
          refine (byte_any w.heap.size w.heap.size _ 10 wr HE5.out (by rw [cells_len, List.length_append]; have h2 := HPL.out; have h4 := HZL.out; omega) BI.out.size).mono ?_
          rintro e W6 ⟨rfl, hD6, hb6, -⟩
          have HD6 : Hid (Bld w.heap.size w.heap.size (Lib.byteCells (sTxt wd (ls.take (kk + 1)))) W6) := by
            have h := hD6
            rw [cells_nl, ← HPRE.out] at h
            show Bld _ _ _ _
            rw [HTK.out, HLI2.out]
            simpa [List.append_assoc] using h
          have HW6 := hidB (BI.out.trans (hb6.mono (Nat.le_refl _)))
          clear hD6 hb6
          go_wp2_with fail
          go_roundg (n - (kk + 1))
          case measure => clear es; omega
          case rel => exact ⟨kk + 1, hlt, Nat.le_refl _, by go_num, HW6.out, HD6.out⟩
    · have hltz : ¬ (kk : Int) < (n : Int) := by omega
      have HE : Hid (Bld w.heap.size w.heap.size (Lib.byteCells (sTxt wd ls)) wr) := by
        have h := BD.out
        rw [List.take_of_length_le (by rw [← HN.out]; omega)] at h
        exact h
      go_wp2_with fail
      refine (Tryz.Builder_String_any w.heap.size w.heap.size (sTxt wd ls) wr HE.out BW.out.size).mono ?_
      rintro e w' ⟨rfl, hb⟩
      have HW := hidB (BW.out.trans (hb.mono (Nat.le_refl _)))
      go_wp2_with fail
      go_ret
      exact ⟨rfl, HW.out⟩
end Go.Proofs.YtmgodofnhjmbfaaGreatDoor.bld
