/- The walk of TapeCounts. -/
import Derived.Test.YtgpbpaimfhlnhaaDoorTapPrt
namespace Go.Proofs.YtgpbpaimfhlnhaaDoor.tap
open Go.RowKit Go.Proofs.YtgpbpaimfhlnhaaDoor.mee Go.Proofs.YtgpbpaimfhlnhaaDoor.flr Go.Proofs.YtgpbpaimfhlnhaaDoor.bld
open Go.Proofs.YtgpbpaimfhlnhaaDoor.spn (keeps rangeE errV errV_zero errV_of)
open Go.Proofs.YtgpbpaimfhlnhaaDoor.wak (OwnM wpList_append_mid own_of own_range)

/-- So many trades of so much each. -/
def many (qty : Int) (k : Nat) : List Ev := (List.range k).map fun (i : Nat) => ⟨2, 0, 0, 0, ⟨1, 2, 1, 2, 1 + (i : Int), qty⟩⟩
theorem many_len (qty : Int) (k : Nat) : (many qty k).length = k := by simp [many]
theorem many_succ (qty : Int) (k : Nat) : many qty (k + 1) = many qty k ++ [⟨2, 0, 0, 0, ⟨1, 2, 1, 2, 1 + (k : Int), qty⟩⟩] := by simp [many, List.range_succ]
theorem many_ok {qty : Int} {k : Nat} (hk : k ≤ 400) (h1 : 1 ≤ qty) (h2 : qty ≤ 10000) : tchk (many qty k) = 0 := by
  unfold tchk
  rw [many_len, if_neg (by omega)]
  have : (many qty k).any badE = false := by
    rw [List.any_eq_false]
    intro e he
    unfold many at he
    obtain ⟨i, hi, rfl⟩ := List.mem_map.1 he
    rw [List.mem_range] at hi
    simp [badE, evB, tdB]
    omega
  rw [this]
  rfl
theorem many_trs (qty : Int) (k : Nat) : trs (many qty k) = (List.range k).map fun (i : Nat) => ⟨1, 2, 1, 2, 1 + (i : Int), qty⟩ := by
  unfold trs many
  rw [List.filterMap_map]
  induction (List.range k) with
  | nil => rfl
  | cons a t ih =>
    simp
    exact ih
theorem many_sum (qty : Int) (k : Nat) : sumQ (trs (many qty k)) = (k : Int) * qty := by
  induction k with
  | zero => simp [many, trs, sumQ]
  | succ k ih =>
    rw [many_succ, trs_append, sumQ_append, ih]
    simp [trs, sumQ]
    rw [Int.add_mul, Int.one_mul]
theorem many_last (qty : Int) (k : Nat) : lastP (trs (many qty k)) = (k : Int) := by
  cases k with
  | zero => rfl
  | succ k =>
    rw [many_succ, trs_append]
    unfold lastP
    have : trs [⟨2, 0, 0, 0, ⟨1, 2, 1, 2, 1 + (k : Int), qty⟩⟩] = [⟨1, 2, 1, 2, 1 + (k : Int), qty⟩] := rfl
    rw [this, List.getLast?_concat]
    simp
    omega
def zeroE : Value := .agg #[.int .i64 0, .int .i64 0, .int .i64 0, .int .i64 0, .int .i64 0, .int .i64 0, .int .i64 0, .int .i64 0, .int .i64 0, .int .i64 0]
theorem infoE : (Tryd.prog.info? 33).map (fun i => (i.zero, i.size, i.bytes)) = some (some zeroE, 10, 80) := by kernel_rfl
theorem infoE' : ∃ i, Tryd.prog.info? 33 = some i ∧ i.zero = some zeroE ∧ i.size = 10 ∧ i.bytes = 80 := by
  have h := infoE
  cases hq : Tryd.prog.info? 33 with
  | none => rw [hq] at h; simp at h
  | some i =>
    rw [hq] at h
    simp only [Option.map_some, Option.some.injEq, Prod.mk.injEq] at h
    exact ⟨i, rfl, h.1, h.2.1, h.2.2⟩
/-- A slice of events of the call's own reads as them. -/
theorem own_el {w : World} {base : Nat} {v : Value} {l : List Ev} (h : OwnM w base 33 10 v l.length (flatE l)) : EL w v l := by
  rcases h.2 with ⟨hv, hn⟩ | ⟨g, off, cap, cur, hv, hb, hg, hnc, hcm, hcs, -⟩
  · exact .inl ⟨hv, List.eq_nil_of_length_eq_zero hn⟩
  · subst hv
    obtain ⟨hc, -, -, hl⟩ := OwnM.cells h
    refine .inr ⟨g, off, cap, rfl, hnc, by have := hcm; unfold maxLen at this; omega, hl, fun j hj i v hv => ?_⟩
    have hi : i < 10 := (List.getElem?_eq_some_iff.1 hv).1
    have := hc (j * 10 + i) v (by rw [flatE_get l j hj i hi]; exact hv)
    rw [← Nat.add_assoc] at this
    exact this
theorem str_ne {l : List UInt8} (h : l ≠ []) : (⟨l.toArray⟩ : ByteArray) ≠ ⟨#[]⟩ := by
  intro e
  apply h
  have := congrArg (fun b : ByteArray => b.data.toList) e
  simpa using this

set_option maxHeartbeats 4000000 in
set_option maxRecDepth 100000 in
theorem counts_fine (n : Nat) (qty : Int) (w : World) (hT : Tab w) (hD : Wds w) (n2 : n ≤ 400) (q1 : 1 ≤ qty) (q2 : qty ≤ 10000) :
    Calls Tryd.prog 4 #[.int .i64 n, .int .i64 qty] w fun e w' => e = .returned (.bool true) ∧ Below w.heap.size w w' := by
  obtain ⟨i0, hi0, hz0, hz1, hz2⟩ := infoE'
  have HI := hidT hi0
  have HT := hidT hT
  have HD := hidT hD
  have HB : Hid (n ≤ 400 ∧ 1 ≤ qty ∧ qty ≤ 10000) := ⟨n2, q1, q2⟩
  have a1 : ¬ ((n : Int) < 0) := by omega
  have a2 : ¬ (400 : Int) < (n : Int) := by omega
  have a3 : ¬ qty < 1 := by omega
  have a4 : ¬ 10000 < qty := by omega
  have H0 : Hid (OwnM w w.heap.size 33 10 (.slice none 0 0) 0 (flatE (many qty 0)) ∧ Below w.heap.size w w) := ⟨⟨rfl, .inl ⟨rfl, rfl⟩⟩, Below.refl _ _⟩
  clear n2 q1 q2 hi0 hT hD
  go_enter Tryd.func4, Tryd.ntmps4
  go_wp2_with fail
  clear a1 a2 a3 a4
  go_loopg [5, 6] n (fun gg s5 s6 wr => ∃ (kk : Nat) (q : Option Addr) (c : Nat), kk ≤ n ∧ n - kk ≤ gg ∧ s5 = .slice q kk c ∧ s6 = .int .i64 kk ∧ Aside (OwnM wr w.heap.size 33 10 (.slice q kk c) kk (flatE (many qty kk)) ∧ Below w.heap.size w wr))
  case atStart => exact ⟨0, none, 0, Nat.zero_le _, by omega, rfl, rfl, H0.out⟩
  case round =>
    clear H0
    obtain ⟨kk, q, c, hkk, hg, rfl, rfl, HA⟩ := hrel
    have hb := HB.out
    by_cases hlt : kk < n
    · have hltz : (kk : Int) < (n : Int) := by omega
      obtain ⟨k1, hk1⟩ : ∃ x : Int, x = 1 + (kk : Int) := ⟨_, rfl⟩
      have HK1 := hidT hk1
      have ek : wrap64 (1 + (kk : Int)) = k1 := by rw [hk1]; unfold wrap64; omega
      have HM : Hid (kk < n ∧ n - kk ≤ gk ∧ kk ≤ 400) := ⟨hlt, hg, by clear ek; omega⟩
      have ek2 := wrapSuccT kk n hlt (by omega)
      have HO3 : Hid (OwnM (wr.alloc (.cells #[.int .i64 2, .int .i64 0, .int .i64 0, .int .i64 0, .int .i64 1, .int .i64 2, .int .i64 1, .int .i64 2, .int .i64 k1, .int .i64 qty] 33)) w.heap.size 33 10 (.slice q kk c) kk (flatE (many qty kk))) := OwnM.below HA.out.1 ((Below.refl _ _).alloc (Nat.le_refl _) _)
      have HB3 : Hid (Below w.heap.size w (wr.alloc (.cells #[.int .i64 2, .int .i64 0, .int .i64 0, .int .i64 0, .int .i64 1, .int .i64 2, .int .i64 1, .int .i64 2, .int .i64 k1, .int .i64 qty] 33))) := HA.out.2.alloc HA.out.2.size _
      have HNW : Hid (∀ j u, ([.int .i64 2, .int .i64 0, .int .i64 0, .int .i64 0, .int .i64 1, .int .i64 2, .int .i64 1, .int .i64 2, .int .i64 k1, .int .i64 qty] : List Value)[j]? = some u → (wr.alloc (.cells #[.int .i64 2, .int .i64 0, .int .i64 0, .int .i64 0, .int .i64 1, .int .i64 2, .int .i64 1, .int .i64 2, .int .i64 k1, .int .i64 qty] 33)).cell? ((⟨wr.heap.size, 0, none⟩ : Addr).add j) = some u) := by
        intro j u hu
        rw [Addr.add_lit, Nat.zero_add, World.cell?_alloc_at _ _ _ _ rfl]
        simpa using hu
      clear hk1 hb hkk hg hlt HA
      go_wp2_with (at_builtin; (refine wpList_append_mid _ rfl _ _ 22 rfl w.heap.size 33 i0 zeroE 10 80 Tryd.underlying22 HI.out hz0 hz1 hz2 rfl (.slice q kk c) _ _ rfl HO3.out ⟨wr.heap.size, 0, none⟩ 1 1 [.int .i64 2, .int .i64 0, .int .i64 0, .int .i64 0, .int .i64 1, .int .i64 2, .int .i64 1, .int .i64 2, .int .i64 k1, .int .i64 qty] rfl rfl HNW.out (by simp [Value.oneCell']) ?c3 ?c4 ?c5 ?_))
      case c3 => have := HM.out; clear ek ek2; unfold maxLen; omega
      case c4 => have := HM.out; clear ek ek2; omega
      case c5 => have := HB3.out.size; simpa using this
      intro v' w' hO' hgr hat
      obtain ⟨q', c', hv'⟩ := OwnM.form hO'
      subst hv'
      have HNX : Hid (OwnM w' w.heap.size 33 10 (.slice q' (kk + 1) c') (kk + 1) (flatE (many qty (kk + 1))) ∧ Below w.heap.size w w') := by
        refine ⟨?_, HB3.out.grown hgr HB3.out.size (fun k hk => (OwnM.lt HO3.out k hk).1)⟩
        rw [many_succ, flatE_append, flatE_one, ← HK1.out]
        exact hO'
      clear hO' hgr hat HO3 HNW HB3
      go_wp2_with fail
      go_roundg (n - (kk + 1))
      case measure => have := HM.out; clear ek ek2; omega
      case rel => exact ⟨kk + 1, q', c', HM.out.1, Nat.le_refl _, rfl, by first | exact congrArg (Value.int .i64) ek2 | go_num, HNX.out⟩
    · have hke : kk = n := by omega
      subst hke
      have hltz : ¬ (kk : Int) < (kk : Int) := by omega
      have hel : EL wr (.slice q kk c) (many qty kk) := own_el (by rw [many_len]; exact HA.out.1)
      have hck := many_ok hb.1 hb.2.1 hb.2.2
      have HVO := hidT (fun W (hW : Below wr.heap.size wr W) => volume_any _ _ W (hel.below hW))
      have HLA := hidT (fun W (hW : Below wr.heap.size wr W) => last_any _ _ W (hel.below hW))
      have HPR := hidT (fun W (hW : Below wr.heap.size wr W) => print_any _ _ W (hel.below hW) ((HT.out.on HA.out.2 (Nat.le_refl _)).on hW (Nat.le_refl _)) ((HD.out.on HA.out.2 (Nat.le_refl _)).on hW (Nat.le_refl _)))
      rw [show volE (many qty kk) = (kk : Int) * qty from (if_pos hck).trans (many_sum qty kk), show cntE (many qty kk) = (kk : Int) from (if_pos hck).trans (by rw [many_trs]; simp), hck, errV_zero] at HVO
      rw [show lasE (many qty kk) = (kk : Int) from (if_pos hck).trans (many_last qty kk), hck, errV_zero] at HLA
      rw [hck, errV_zero] at HPR
      have HPE : Hid (prtT (many qty kk) = [] ↔ kk = 0) := by
        show _ ↔ _
        rw [show prtT (many qty kk) = pTxt (many qty kk) from if_pos hck, pTxt_nil]
        constructor
        · intro e; have := congrArg List.length e; rw [many_len] at this; simpa using this
        · rintro rfl; rfl
      generalize prtT (many qty kk) = PT at *
      obtain ⟨M, hM⟩ : ∃ M, M = (kk : Int) * qty := ⟨_, rfl⟩
      have hMb : 0 ≤ M ∧ M ≤ 4000000 := by
        have h1 : (0 : Int) * 1 ≤ (kk : Int) * qty := Int.mul_le_mul (by omega) hb.2.1 (by decide) (by omega)
        have h2 : (kk : Int) * qty ≤ 400 * 10000 := Int.mul_le_mul (by omega) hb.2.2 (by omega) (by decide)
        omega
      rw [← hM] at HVO
      have wm : wrap64 ((kk : Int) * qty) = M := by rw [← hM]; unfold wrap64; omega
      have HW0 := hidT HA.out.2
      have HM0 := hidT hM
      clear hel hck hb hkk hg hlt HA hMb HT HD hM
      go_wp2_with fail
      refine (HVO.out wr (Below.refl _ _)).mono ?_
      rintro e W3 ⟨rfl, hb3⟩
      have B3 := hidT hb3
      clear hb3 HVO
      go_wp2_with fail
      refine (HLA.out W3 B3.out).mono ?_
      rintro e W4 ⟨rfl, hb4⟩
      have B4 := hidT (B3.out.trans (hb4.mono B3.out.size))
      clear hb4 HLA B3
      go_wp2_with fail
      refine (HPR.out W4 B4.out).mono ?_
      rintro e W5 ⟨rfl, hb5⟩
      have B5 := hidT (B4.out.trans (hb5.mono B4.out.size))
      clear hb5 HPR B4
      by_cases h0 : kk = 0
      · subst h0
        have hp := HPE.out.2 rfl
        subst hp
        have hm0 : M = 0 := by rw [HM0.out]; simp
        subst hm0
        go_wp2_with fail
        go_ret
        exact ⟨rfl, HW0.out.trans (B5.out.mono HW0.out.size)⟩
      · have hk0 : ((kk : Int) == 0) = false := by simp; omega
        have hpt : ¬ PT = [] := fun e => h0 (HPE.out.1 e)
        go_wp2_with fail
        go_ret
        exact ⟨by simp [*], HW0.out.trans (B5.out.mono HW0.out.size)⟩
theorem counts_any (a b : Int) (w : World) (hT : Tab w) (hD : Wds w) :
    Calls Tryd.prog 4 #[.int .i64 a, .int .i64 b] w fun e w' => e = .returned (.bool true) ∧ Below w.heap.size w w' := by
  by_cases h1 : a < 0
  · clear hT hD
    go_enter Tryd.func4, Tryd.ntmps4
    go_wp2_with fail
    go_ret
    exact ⟨rfl, Below.refl _ _⟩
  by_cases h2 : 400 < a
  · clear hT hD
    go_enter Tryd.func4, Tryd.ntmps4
    go_wp2_with fail
    go_ret
    exact ⟨rfl, Below.refl _ _⟩
  by_cases h3 : b < 1
  · clear hT hD
    go_enter Tryd.func4, Tryd.ntmps4
    go_wp2_with fail
    go_ret
    exact ⟨rfl, Below.refl _ _⟩
  by_cases h4 : 10000 < b
  · clear hT hD
    go_enter Tryd.func4, Tryd.ntmps4
    go_wp2_with fail
    go_ret
    exact ⟨rfl, Below.refl _ _⟩
  · obtain ⟨n, rfl⟩ : ∃ n : Nat, a = (n : Int) := ⟨a.toNat, by omega⟩
    exact counts_fine n b w hT hD (by omega) (by omega) (by omega)
end Go.Proofs.YtgpbpaimfhlnhaaDoor.tap
