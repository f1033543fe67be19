/- Contracts over this seat's translation: a strings.Builder that is written: copyCheck. Contracts over this seat's translation: a number as text: strconv.Itoa, the document's Digits; what one rest is as text: book.printed. Contracts over this seat's translation: queue.Check and queue.Total. -/
import Derived.Test.YtmgodofnhjmbfaaGreatDoorSpan
import Derived.Test.YtmgodofnhjmbfaaGreatDoorQueOwn
import Derived.Lib.Builder
import Derived.Lib.OthersKept
import Derived.Test.YtmgodofnhjmbfaaGreatDoorQuePure
import Derived.Test.YtmgodofnhjmbfaaGreatDoorQueRest
import Derived.Lib.ItoaNum
import Derived.Lib.SmallJoins
import Derived.Lib.AppendIntMem
import Derived.Test.YtmgodofnhjmbfaaGreatDoorQueFind
namespace Go.Proofs.YtmgodofnhjmbfaaGreatDoor.bld
open Go.RowKit

theorem infoB : ∃ j, Tryz.prog.info? 92 = some j ∧ j.size = 2 := by
  have h : ((Tryz.prog.info? 92).map (fun i => i.size)) = some 2 := by kernel_rfl
  obtain ⟨j, hj, hs⟩ := Option.map_eq_some_iff.1 h
  exact ⟨j, hj, hs⟩
set_option maxRecDepth 100000 in
theorem check_used (b : Nat) (w : World) (h0 : w.cell? ⟨b, 0, none⟩ = some (.pointer (some ⟨b, 0, none⟩))) :
    Calls Tryz.prog 73 #[.pointer (some ⟨b, 0, none⟩)] w fun e w' => e = .returned (.tuple #[]) ∧ w' = w := by
  obtain ⟨j, hj, -⟩ := infoB
  go_enter Tryz.func73, Tryz.ntmps73
  go_wp2_with fail
  rw [Lib.run_neq_ptr_same w _ (by kernel_rfl) hj]
  go_wp2_with fail
  go_end0
  exact ⟨rfl, rfl⟩
set_option maxRecDepth 100000 in
theorem check_fresh (b : Nat) (w : World) (h0 : w.cell? ⟨b, 0, none⟩ = some (.pointer none)) (hsh : w.shape? b = some (92, 2)) (hfz : w.frozen? ⟨b, 0, none⟩ = false) :
    Calls Tryz.prog 73 #[.pointer (some ⟨b, 0, none⟩)] w fun e w' => e = .returned (.tuple #[]) ∧ w' = w.setCell ⟨b, 0, none⟩ (.pointer (some ⟨b, 0, none⟩)) := by
  obtain ⟨j, hj, hjs⟩ := infoB
  go_enter Tryz.func73, Tryz.ntmps73
  go_wp2_with fail
  rw [Lib.run_to_unsafe w ⟨b, 0, none⟩ (by kernel_rfl) (by kernel_rfl) hj (by rw [hjs]; decide) hsh (Nat.zero_lt_succ 1)]
  simp only [Result.andThen]
  rw [Oper.upon_value]
  go_wp2_with fail
  rw [run_callFunc_extern Tryz.func92 (by kernel_rfl) (by kernel_rfl) (by kernel_rfl) (e := Extern.AbiNoEscape.same) (by kernel_rfl), Lib.run_noEscape]
  simp only [Result.andThen]
  rw [Oper.upon_value]
  go_wp2_with fail
  rw [Lib.run_from_unsafe w ⟨b, 0, none⟩ (by kernel_rfl) (by kernel_rfl) hj hsh (by kernel_rfl)]
  simp only [Result.andThen]
  rw [Oper.upon_value]
  go_wp2_with fail
  go_end0
  exact ⟨rfl, rfl⟩
/-- copyCheck at a builder: behind it the builder is one that was written. -/
theorem check_any (B b : Nat) (bs : List Value) (w : World) (h : Lib.IsBuilder 92 5 B b bs w) :
    Calls Tryz.prog 73 #[.pointer (some ⟨b, 0, none⟩)] w fun e w' => e = .returned (.tuple #[]) ∧ Lib.BuilderAt 92 5 B b (.pointer (some ⟨b, 0, none⟩)) bs w' ∧ Below B w w' ∧ Lib.OthersKept 5 (some b) w w' := by
  rcases h with h | h
  · refine (check_fresh b w h.cell0 h.shape h.frozen0).mono ?_
    rintro e w' ⟨rfl, rfl⟩
    exact ⟨rfl, h.used _, (Below.refl B w).setCell (p := ⟨b, 0, none⟩) h.1 _, (Lib.OthersKept.refl _ _ w).setCell ⟨b, 0, none⟩ rfl _⟩
  · refine (check_used b w h.cell0).mono ?_
    rintro e w' ⟨rfl, rfl⟩
    exact ⟨rfl, h, Below.refl B _, Lib.OthersKept.refl _ _ _⟩
theorem infoU : ∃ i, Tryz.prog.info? 5 = some i ∧ i.zero = some (.int .u8 0) ∧ i.size = 1 ∧ i.bytes = 1 := by
  have h : ((Tryz.prog.info? 5).map (fun i => (i.zero, i.size, i.bytes))) = some (some (.int .u8 0), 1, 1) := by kernel_rfl
  obtain ⟨i, hi, he⟩ := Option.map_eq_some_iff.1 h
  simp only [Prod.mk.injEq] at he
  exact ⟨i, hi, he.1, he.2.1, he.2.2⟩
/-- A builder of the call's own, laid at b or above B. -/
abbrev Bld (B b : Nat) (l : List Value) (w : World) : Prop := Lib.IsBuilder 92 5 B b l w
theorem row_form {w : World} {B : Nat} {e : TypeId} {v : Value} {n : Nat} {xs : List Value} (h : w.ownsRow B e 1 v n xs) : ∃ q k c, v = .slice q k c := by
  rcases h.2 with ⟨hv, -⟩ | ⟨g, cap, cur, hv, -⟩ <;> exact ⟨_, _, _, hv⟩
theorem row_kind {w : World} {B : Nat} {e : TypeId} {v : Value} {n : Nat} {xs : List Value} (h : w.ownsRow B e 1 v n xs) : ∀ g, v.ownBlock = some g → ∃ c fz, w.heap[g]? = some (.cells c e fz) := Lib.ownsRowF_kind (World.ownsRowF_of h)
set_option maxRecDepth 100000 in
theorem write_any (B b : Nat) (bs : List Value) (s : ByteArray) (w : World) (h : Bld B b bs w) (hlen : bs.length + s.size ≤ 140737488355328) (hBw : B ≤ w.heap.size) :
    Calls Tryz.prog 48 #[.pointer (some ⟨b, 0, none⟩), .string s] w fun e w' => e = .returned (.tuple #[.int .i64 s.size, .nilIface]) ∧ Bld B b (bs ++ Lib.strCells s) w' ∧ Below B w w' ∧ Lib.OthersKept 5 (some b) w w' := by
  obtain ⟨i0, hi, hz0, hz1, hz2⟩ := infoU
  go_enter Tryz.func48, Tryz.ntmps48
  go_wp2_with fail
  refine (check_any B b bs w h).mono ?_
  rintro e w1 ⟨rfl, ⟨hB, v, hbk, hown, hne⟩, hb1, hk1⟩
  have HK1 : Hid (Lib.OthersKept 5 (some b) w w1) := hk1
  clear hk1
  have hs1 := hb1.size
  have hlt : b < w1.heap.size := (Array.getElem?_eq_some_iff.1 hbk).1
  have c0 : w1.cell? ⟨b, 0, none⟩ = some (.pointer (some ⟨b, 0, none⟩)) := by simp [World.cell?, hbk]
  have c1 : w1.cell? ⟨b, 1, none⟩ = some v := by simp [World.cell?, hbk]
  obtain ⟨vq, vn, vc, rfl⟩ := row_form hown
  go_wp2_with (at_builtin; refine Lib.wpList_append_own_string _ rfl _ _ 90 9 rfl B 5 i0 (by kernel_rfl) (by kernel_rfl) hi hz0 hz1 hz2 _ _ _ rfl hown s rfl ?c3 ?c4 ?c5 ?_)
  case c3 => unfold maxLen; omega
  case c4 => exact hlen
  case c5 => omega
  intro v' w2 hown' hgr _
  have hb2 := (hgr.block b hlt (fun e => hne e.symm)).trans hbk
  have d0 : w2.cell? ⟨b, 0, none⟩ = some (.pointer (some ⟨b, 0, none⟩)) := by simp [World.cell?, hb2]
  have d1 : w2.cell? ⟨b, 1, none⟩ = some (.slice vq vn vc) := by simp [World.cell?, hb2]
  have f1 : w2.frozen? ⟨b, 1, none⟩ = false := Lib.frozen_of_heap hb2 1
  obtain ⟨xq, xn, xc, rfl⟩ := row_form hown'
  have HB2 := hb1.grown hgr (by omega) (fun k hk => (hown.lt k hk).1)
  go_wp2_with fail
  go_ret2
  exact ⟨rfl, .inr (Lib.BuilderAt.put hB hb2 (bs' := bs ++ Lib.strCells s) (by rw [List.length_append, Lib.strCells_length]; exact hown') (by decide)), HB2.setCell (p := ⟨b, 1, none⟩) hB _, (HK1.out.grown hgr (row_kind hown)).setCell ⟨b, 1, none⟩ rfl _⟩
set_option maxRecDepth 100000 in
theorem byte_any (B b : Nat) (bs : List Value) (c : Int) (w : World) (h : Bld B b bs w) (hlen : bs.length + 1 ≤ 140737488355328) (hBw : B ≤ w.heap.size) :
    Calls Tryz.prog 51 #[.pointer (some ⟨b, 0, none⟩), .int .u8 c] w fun e w' => e = .returned .nilIface ∧ Bld B b (bs ++ [.int .u8 c]) w' ∧ Below B w w' ∧ Lib.OthersKept 5 (some b) w w' := by
  obtain ⟨i0, hi, hz0, hz1, hz2⟩ := infoU
  go_enter Tryz.func51, Tryz.ntmps51
  go_wp2_with fail
  refine (check_any B b bs w h).mono ?_
  rintro e w1 ⟨rfl, ⟨hB, v, hbk, hown, hne⟩, hb1, hk1⟩
  have HK1 : Hid (Lib.OthersKept 5 (some b) w w1) := hk1
  clear hk1
  have hs1 := hb1.size
  have hlt : b < w1.heap.size := (Array.getElem?_eq_some_iff.1 hbk).1
  have c0 : w1.cell? ⟨b, 0, none⟩ = some (.pointer (some ⟨b, 0, none⟩)) := by simp [World.cell?, hbk]
  have c1 : w1.cell? ⟨b, 1, none⟩ = some v := by simp [World.cell?, hbk]
  obtain ⟨vq, vn, vc, rfl⟩ := row_form hown
  go_wp2_with (at_builtin; refine wpList_append_own _ rfl _ _ 90 rfl B 5 i0 (.int .u8 0) 1 1 (by kernel_rfl) hi hz0 hz1 hz2 rfl (by decide) _ _ _ rfl (hown.alloc _) ⟨w1.heap.size, 0, none⟩ 1 1 [.int .u8 c] rfl rfl ?c1 ?c2 ?c3 ?c4 ?c5 ?_)
  case c1 =>
    intro j u hu
    cases j with
    | zero =>
      simp at hu
      subst hu
      have hnew := heap_alloc_new w1 (.cells #[.int .u8 c] 5)
      have ha : (Addr.add ⟨w1.heap.size, 0, none⟩ 0) = ⟨w1.heap.size, 0, none⟩ := rfl
      rw [ha]
      simp only [World.cell?, hnew]
      rfl
    | succ j => simp at hu
  case c2 => intro u hu; simp at hu; subst hu; rfl
  case c3 => unfold maxLen; omega
  case c4 => omega
  case c5 => simp; omega
  intro v' w2 hown' hgr _
  have hba := hb1.alloc (by omega : B ≤ w1.heap.size) (.cells #[.int .u8 c] 5)
  have hbk' : (w1.alloc (.cells #[.int .u8 c] 5)).heap[b]? = some (.cells #[.pointer (some ⟨b, 0, none⟩), .slice vq vn vc] 92 (0, 0)) := (((Below.refl _ _).alloc (Nat.le_refl _) _ : Below w1.heap.size w1 (w1.alloc (.cells #[.int .u8 c] 5))).block b hlt).trans hbk
  have hb2 := (hgr.block b (Array.getElem?_eq_some_iff.1 hbk').1 (fun e => hne e.symm)).trans hbk'
  have d0 : w2.cell? ⟨b, 0, none⟩ = some (.pointer (some ⟨b, 0, none⟩)) := by simp [World.cell?, hb2]
  have d1 : w2.cell? ⟨b, 1, none⟩ = some (.slice vq vn vc) := by simp [World.cell?, hb2]
  have f1 : w2.frozen? ⟨b, 1, none⟩ = false := Lib.frozen_of_heap hb2 1
  obtain ⟨xq, xn, xc, rfl⟩ := row_form hown'
  have HB2 := hba.grown hgr (by have := hba.size; omega) (fun k hk => (hown.lt k hk).1)
  go_wp2_with fail
  go_ret
  exact ⟨rfl, .inr (Lib.BuilderAt.put hB hb2 (bs' := bs ++ [.int .u8 c]) (by rw [List.length_append]; exact hown') (by decide)), HB2.setCell (p := ⟨b, 1, none⟩) hB _, ((HK1.out.alloc _).grown hgr (row_kind (hown.alloc _))).setCell ⟨b, 1, none⟩ rfl _⟩
end Go.Proofs.YtmgodofnhjmbfaaGreatDoor.bld
namespace Go.Proofs.YtmgodofnhjmbfaaGreatDoor.bld
open Go.RowKit Go.Proofs.YtmgodofnhjmbfaaGreatDoor.que

def dec (n : Int) : List UInt8 := Lib.itoa n
theorem dec_pos {n : Int} (h : 0 ≤ n) : dec n = Lib.decDigits n.toNat := by unfold dec Lib.itoa; rw [if_neg (by omega)]
theorem dec_len : ∀ (k u : Nat), u < 10 ^ (k + 1) → (Lib.decDigits u).length ≤ k + 1 := by
  intro k
  induction k with
  | zero => intro u h; rw [Lib.decDigits_one (by omega)]; simp
  | succ k ih =>
    intro u h
    by_cases h1 : u < 10
    · rw [Lib.decDigits_one h1]; simp
    · rw [Lib.decDigits, dif_neg h1, List.length_append]
      have := ih (u / 10) (by rw [Nat.pow_succ] at h; omega)
      simp
      omega
theorem dec_short {n : Int} (h0 : 0 ≤ n) (h : n ≤ 99999) : (dec n).length ≤ 5 := by
  rw [dec_pos h0]
  exact dec_len 4 n.toNat (by omega)
theorem str_ext {a b : ByteArray} (h : a.data.toList = b.data.toList) : a = b := by
  cases a; cases b
  congr 1
  exact Array.toList_inj.1 h
theorem app_str (a b : List UInt8) : (⟨a.toArray⟩ : ByteArray) ++ ⟨b.toArray⟩ = ⟨(a ++ b).toArray⟩ := by
  apply str_ext
  simp
/-- The table that a number of more than two digits is written by. -/
def Tab (w : World) : Prop := Lib.TabIs Tryz.prog w "internal/strconv.uint64pow10" .u64 Lib.pow10Tab
theorem Tab.on {w w' : World} {B : Nat} (h : Tab w) (hb : Below B w w') (hB : w.heap.size ≤ B) : Tab w' := Joins.tab_stays (show Tryz.prog.globalNamed "internal/strconv.uint64pow10" = some 1 by kernel_rfl) h hb hB
theorem itoa_any (n : Int) (w : World) (h : Tab w) (h0 : -9223372036854775808 ≤ n) (h1 : n ≤ 9223372036854775807) :
    Calls Tryz.prog 49 #[.int .i64 n] w fun e w' => e = .returned (.string ⟨(dec n).toArray⟩) ∧ Below w.heap.size w w' := by
  refine (Tryz.strconv_Itoa n h0 h1 w h).mono ?_
  rintro e w' ⟨rfl, k, os, rfl⟩
  exact ⟨rfl, Lib.below_grow _ _ (Nat.le_refl _) _ _⟩

def digS : ByteArray := ⟨#[48, 49, 50, 51, 52, 53, 54, 55, 56, 57]⟩
theorem dig_one (n : Int) (h0 : 0 ≤ n) (h1 : n < 10) : digS.extract n.toNat (n + 1).toNat = ⟨(dec n).toArray⟩ := by
  have : n = 0 ∨ n = 1 ∨ n = 2 ∨ n = 3 ∨ n = 4 ∨ n = 5 ∨ n = 6 ∨ n = 7 ∨ n = 8 ∨ n = 9 := by omega
  rcases this with rfl | rfl | rfl | rfl | rfl | rfl | rfl | rfl | rfl | rfl <;> (apply str_ext; rw [dec_pos (by decide), Lib.decDigits_one (by decide)]; decide)
theorem digits_one (n : Int) (w : World) (h0 : 0 ≤ n) (h1 : n < 10) :
    Calls Tryz.prog 29 #[.int .i64 n] w fun e w' => e = .returned (.string ⟨(dec n).toArray⟩) ∧ w' = w := by
  have hd := dig_one n h0 h1
  go_enter Tryz.func29, Tryz.ntmps29
  go_wp2
  go_ret
  exact ⟨by rw [← hd]; rfl, rfl⟩
theorem dec_step (n : Int) (h : 10 ≤ n) : dec n = dec (n / 10) ++ dec (n % 10) := by
  rw [dec_pos (by omega), dec_pos (by omega), dec_pos (by omega), Lib.decDigits, dif_neg (by omega), Lib.decDigits_one (i := (n % 10).toNat) (by omega)]
  have e1 : n.toNat / 10 = (n / 10).toNat := by omega
  have e2 : n.toNat % 10 = (n % 10).toNat := by omega
  rw [e1, e2]
/-- Digits of a number from 0 on, of at most five digits. -/
theorem digits_any (k : Nat) : ∀ (n : Int) (w : World), 0 ≤ n → n < 10 ^ (k + 1) → k ≤ 4 →
    Calls Tryz.prog 29 #[.int .i64 n] w fun e w' => e = .returned (.string ⟨(dec n).toArray⟩) ∧ w' = w := by
  induction k with
  | zero => intro n w h0 h1 _; exact digits_one n w h0 (by omega)
  | succ k ih =>
    intro n w h0 h1 hk
    by_cases h : n < 10
    · exact digits_one n w h0 h
    have hn : 10 ≤ n := by omega
    have hb : n < 100000 := by
      have : (10 : Int) ^ (k + 1 + 1) ≤ 10 ^ 5 := by
        have := Nat.pow_le_pow_right (n := 10) (by omega) (show k + 1 + 1 ≤ 5 by omega)
        exact_mod_cast this
      omega
    have e1 := dig_one (n % 10) (by omega) (by omega)
    have e2 := dec_step n hn
    have hr := ih (n / 10) w (by omega) (by rw [Int.pow_succ] at h1; omega) (by omega)
    have hl : (dec (n / 10)).length ≤ 5 := dec_short (by omega) (by omega)
    have m1 : 0 ≤ n % 10 := by omega
    have m2 : n % 10 < 10 := by omega
    clear h h1 ih
    go_enter Tryz.func29, Tryz.ntmps29
    go_wp2_with fail
    refine hr.mono ?_
    rintro e w' ⟨rfl, rfl⟩
    go_wp2_with fail
    go_ret
    exact ⟨by rw [e2, ← app_str, ← e1]; rfl, rfl⟩

/-- A rest as text. -/
def rTxt (r : R) : List UInt8 := dec r.id ++ [58] ++ dec r.qty ++ (if 0 < r.hid then [43] ++ dec r.hid else [])
theorem rTxt_len {r : R} (h : rchk r = 0) : (rTxt r).length ≤ 17 := by
  obtain ⟨h1, h2, -, -, -, h3, -⟩ := rchk_zero h
  have a := dec_short (n := r.id) (by omega) (by omega)
  have b := dec_short (n := r.qty) (by omega) (by omega)
  have c := dec_short (n := r.hid) (by omega) (by omega)
  unfold rTxt
  split <;> simp <;> omega
end Go.Proofs.YtmgodofnhjmbfaaGreatDoor.bld
namespace Go.Proofs.YtmgodofnhjmbfaaGreatDoor.que
open Go.RowKit Go.Proofs.YtmgodofnhjmbfaaGreatDoor.spn

theorem lies_at {w : World} {b o k : Nat} {zs : List R} (h : Lies w b o zs) (hk : k < zs.length) {r1 r2 r3 r4 r5 : Int} (he : zs[k]! = ⟨r1, r2, r3, r4, r5⟩) :
    w.cell? ⟨b, o + k * 5, none⟩ = some (.int .i64 r1) ∧ w.cell? ⟨b, o + k * 5 + 1, none⟩ = some (.int .i64 r2) ∧ w.cell? ⟨b, o + k * 5 + 2, none⟩ = some (.int .i64 r3) ∧ w.cell? ⟨b, o + k * 5 + 3, none⟩ = some (.int .i64 r4) ∧ w.cell? ⟨b, o + k * 5 + 4, none⟩ = some (.int .i64 r5) := by
  have hh := h k hk
  rw [he] at hh
  exact ⟨hh 0 _ rfl, hh 1 _ rfl, hh 2 _ rfl, hh 3 _ rfl, hh 4 _ rfl⟩

theorem drop_at {zs : List R} {k : Nat} (hk : k < zs.length) : zs.drop k = zs[k]! :: zs.drop (k + 1) := by
  rw [List.drop_eq_getElem_cons hk, getE _ _ hk]
theorem take_at {zs : List R} {k : Nat} (hk : k < zs.length) : zs.take (k + 1) = zs.take k ++ [zs[k]!] := by
  rw [List.take_succ_eq_append_getElem hk, getE _ _ hk]

theorem sl_take {w : World} {b o c k : Nat} {zs : List R} (hk : k ≤ zs.length) (hc : zs.length ≤ c) (hm : c ≤ 9223372036854775807) (hb : b < w.heap.size) (h : Lies w b o zs) : SL w (.slice (some ⟨b, o, none⟩) k c) (zs.take k) := by
  refine .inr ⟨b, o, c, ?_, ?_, hm, hb, h.take k⟩
  · rw [List.length_take, Nat.min_eq_left hk]
  · rw [List.length_take]; omega

set_option maxRecDepth 100000 in
set_option maxHeartbeats 1000000 in
theorem qcheck_some (b o c : Nat) (zs : List R) (w : World) (hb : b < w.heap.size) (hc : zs.length ≤ c) (hm : c ≤ 9223372036854775807) (hl : Lies w b o zs) :
    Calls Tryz.prog 90 #[.slice (some ⟨b, o, none⟩) zs.length c] w fun e w' => e = .returned (errV (qchk zs)) ∧ Below w.heap.size w w' := by
  by_cases h60 : 60 < zs.length
  · have e : qchk zs = 4 := by unfold qchk; rw [if_pos h60]
    rw [e]
    clear hl e
    generalize zs.length = n at *
    have h60' : (60 : Int) < (n : Int) := by omega
    go_enter Tryz.func90, Tryz.ntmps90
    go_wp2
    go_ret
    exact ⟨rfl, Below.refl _ _⟩
  · have e : qchk zs = qgo [] zs := by unfold qchk; rw [if_neg h60]
    rw [e]
    clear e
    generalize hQ : qgo [] zs = Q
    have HQ : Hid (qgo [] zs = Q) := hQ
    clear hQ
    have HL : Hid (Lies w b o zs) := hl
    clear hl
    generalize hn : zs.length = n at *
    have HN : Hid (zs.length = n) := hn
    clear hn
    have h60' : ¬ (60 : Int) < (n : Int) := by omega
    go_enter Tryz.func90, Tryz.ntmps90
    go_wp2_with fail
    go_loopg [3, 4, 5, 12] n (fun gg _ _ _ s12 wr => ∃ kk : Nat, kk ≤ n ∧ n - kk ≤ gg ∧ s12 = .int .i64 kk ∧ Aside (Below w.heap.size w wr) ∧ Aside (qgo (zs.take kk) (zs.drop kk) = Q))
    case atStart => exact ⟨0, Nat.zero_le _, by omega, rfl, Below.refl _ w, HQ.out⟩
    case round =>
      obtain ⟨kk, hkk, hg, rfl, BW, A⟩ := hrel
      by_cases hlt : kk < n
      · have hltz : (kk : Int) < (n : Int) := by omega
        have hlz : kk < zs.length := by rw [HN.out]; exact hlt
        have LW : Hid (Lies wr b o zs) := HL.out.below hb BW.out
        obtain ⟨r, hr⟩ : ∃ r, zs[kk]! = r := ⟨_, rfl⟩
        obtain ⟨r1, r2, r3, r4, r5⟩ := r
        obtain ⟨c0, c1, c2, c3, c4⟩ := lies_at LW.out hlz hr
        have HR : Hid (zs[kk]! = ⟨r1, r2, r3, r4, r5⟩) := hr
        have hA : (if bchk (zs.take kk) ⟨r1, r2, r3, r4, r5⟩ = 0 then qgo (zs.take (kk + 1)) (zs.drop (kk + 1)) else bchk (zs.take kk) ⟨r1, r2, r3, r4, r5⟩) = Q := by
          have h := A.out
          rw [drop_at hlz, HR.out] at h
          rw [take_at hlz, HR.out]
          exact h
        have HA : Hid ((if bchk (zs.take kk) ⟨r1, r2, r3, r4, r5⟩ = 0 then qgo (zs.take (kk + 1)) (zs.drop (kk + 1)) else bchk (zs.take kk) ⟨r1, r2, r3, r4, r5⟩) = Q) := hA
        have hbw : b < wr.heap.size := Nat.lt_of_lt_of_le hb BW.out.size
        have hin1 : ¬ ((kk : Int) < 0) := by omega
        have hkc : ¬ ((c : Int) < (kk : Int)) := by omega
        have hkc2 : (kk : Int) ≤ (c : Int) := by omega
        have hBH := fun v W hW => behind_any v (zs.take kk) r1 r2 r3 r4 r5 W hW
        have HB : Hid (∀ v W, SL W v (zs.take kk) → Calls Tryz.prog 99 #[v, .agg #[.int .i64 r1, .int .i64 r2, .int .i64 r3, .int .i64 r4, .int .i64 r5]] W fun x w' => x = .returned (errV (bchk (zs.take kk) ⟨r1, r2, r3, r4, r5⟩)) ∧ Below W.heap.size W w') := hBH
        clear hA hr hBH A
        generalize bchk (zs.take kk) ⟨r1, r2, r3, r4, r5⟩ = k at HA HB
        go_upto_region 6 with fail
        have hV : Below w.heap.size w (wr.alloc (.cells #[.int .i64 r1, .int .i64 r2, .int .i64 r3, .int .i64 r4, .int .i64 r5] 26)) := BW.out.alloc BW.out.size _
        have hR := heap_alloc_new wr (.cells #[.int .i64 r1, .int .i64 r2, .int .i64 r3, .int .i64 r4, .int .i64 r5] 26)
        have HSL : Hid (SL (wr.alloc (.cells #[.int .i64 r1, .int .i64 r2, .int .i64 r3, .int .i64 r4, .int .i64 r5] 26)) (.slice (some ⟨b, o, none⟩) kk c) (zs.take kk)) := (sl_take (by rw [HN.out]; exact hkk) (by rw [HN.out]; exact hc) hm hbw LW.out).below ((Below.refl _ _).alloc (Nat.le_refl _) _)
        generalize wr.alloc (.cells #[.int .i64 r1, .int .i64 r2, .int .i64 r3, .int .i64 r4, .int .i64 r5] 26) = V at *
        generalize wr.heap.size = G at *
        have cel : ∀ i, V.cell? ⟨G, i, none⟩ = (#[.int .i64 r1, .int .i64 r2, .int .i64 r3, .int .i64 r4, .int .i64 r5] : Array Value)[i]? := fun i => by simp [World.cell?, hR]
        have d0 := cel 0
        have d1 := cel 1
        have d2 := cel 2
        have d3 := cel 3
        have d4 := cel 4
        simp only [List.getElem?_toArray, List.getElem?_cons_zero, List.getElem?_cons_succ] at d0 d1 d2 d3 d4
        clear cel hR c0 c1 c2 c3 c4
        have SO : Hid (∀ W, Below V.heap.size V W → (Below V.heap.size V W ∧ W.cell? ⟨G, 0, none⟩ = some (.int .i64 r1) ∧ W.cell? ⟨G, 1, none⟩ = some (.int .i64 r2) ∧ W.cell? ⟨G, 2, none⟩ = some (.int .i64 r3) ∧ W.cell? ⟨G, 3, none⟩ = some (.int .i64 r4) ∧ W.cell? ⟨G, 4, none⟩ = some (.int .i64 r5))) := fun W hW => ⟨hW, keeps hW d0, keeps hW d1, keeps hW d2, keeps hW d3, keeps hW d4⟩
        go_region_held3 (fun W => Below V.heap.size V W ∧ W.cell? ⟨G, 0, none⟩ = some (.int .i64 r1) ∧ W.cell? ⟨G, 1, none⟩ = some (.int .i64 r2) ∧ W.cell? ⟨G, 2, none⟩ = some (.int .i64 r3) ∧ W.cell? ⟨G, 3, none⟩ = some (.int .i64 r4) ∧ W.cell? ⟨G, 4, none⟩ = some (.int .i64 r5))
          ((refine SO.out _ ?_; (repeat' (first | with_reducible assumption | with_reducible refine bal ?_ _ | with_reducible refine Below.setCell ?_ ?_ _ | with_reducible refine Below.drew ?_ | with_reducible exact Below.refl _ _ | with_reducible exact Nat.le_refl _ | with_reducible exact Below.size (by with_reducible assumption) | with_reducible refine Nat.le_succ_of_le ?_))))
          (first | (go_at_call 99; refine (HB.out _ _ ?_).mono ?_; exact HSL.out.below (Below.refl _ _).drew; rintro x W ⟨rfl, hbs⟩; have hbn : Below V.heap.size V W := (Below.refl _ _).drew.trans hbs))
        have hW : Below w.heap.size w W := hV.trans (hbn.mono hV.size)
        clear SO d0 d1 d2 d3 d4 hbs hbn hV HSL
        by_cases hk : k = 0
        · subst hk
          rw [if_pos rfl] at HA
          simp only [errV_zero]
          go_wp2_with fail
          go_roundg (n - (kk + 1))
          case measure => omega
          case rel => exact ⟨kk + 1, by omega, by omega, by go_num, hW, HA.out⟩
        · rw [if_neg hk] at HA
          simp only [errV_of hk]
          go_wp2_with fail
          go_ret
          exact ⟨by rw [← HA.out, errV_of hk]; rfl, hW⟩
      · have hltz : ¬ (kk : Int) < (n : Int) := by omega
        have : kk = n := by omega
        subst this
        go_wp2_with fail
        go_ret
        refine ⟨?_, BW.out⟩
        have h := A.out
        rw [List.drop_eq_nil_of_le (by rw [HN.out]; exact Nat.le_refl _)] at h
        rw [← h]; rfl

theorem qcheck_nil (w : World) :
    Calls Tryz.prog 90 #[.slice none 0 0] w fun e w' => e = .returned (errV (qchk [])) ∧ Below w.heap.size w w' := by
  go_enter Tryz.func90, Tryz.ntmps90
  go_wp2_with fail
  go_loopg [3, 4, 5, 12] 0 (fun _ _ _ _ s12 wr => s12 = .int .i64 0 ∧ wr = w)
  case atStart => exact ⟨rfl, rfl⟩
  case round =>
    obtain ⟨rfl, rfl⟩ := hrel
    go_wp2_with fail
    go_ret
    exact ⟨rfl, Below.refl _ _⟩

/-- Check, at every queue. -/
theorem qcheck_any (v : Value) (zs : List R) (w : World) (h : SL w v zs) :
    Calls Tryz.prog 90 #[v] w fun e w' => e = .returned (errV (qchk zs)) ∧ Below w.heap.size w w' := by
  rcases h with ⟨rfl, rfl⟩ | ⟨b, o, c, rfl, h2, h3, h4, h5⟩
  · exact qcheck_nil w
  · exact qcheck_some b o c zs w h4 h2 h3 h5


end Go.Proofs.YtmgodofnhjmbfaaGreatDoor.que
