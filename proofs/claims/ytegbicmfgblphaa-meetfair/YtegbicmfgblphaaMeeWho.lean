/- Contracts over this seat's translation: the law's whole: all that is shown and hidden in a book. -/
import Derived.Test.YtegbicmfgblphaaMeeFact2
import Derived.Test.YtegbicmfgblphaaQueRefT
namespace Go.Proofs.Ytegbicmfgblphaa.mee
open Go.RowKit Go.Proofs.Ytegbicmfgblphaa.spn Go.Proofs.Ytegbicmfgblphaa.que Go.Proofs.Ytegbicmfgblphaa.sid Go.Proofs.Ytegbicmfgblphaa.bok

theorem totL_append (a b : List L) : totL (a ++ b) = totL a + totL b := by
  induction a with
  | nil => simp [totL]
  | cons x t ih => simp only [List.cons_append, totL, ih]; omega
theorem totL_take (ls : List L) (k : Nat) (hk : k < ls.length) : totL (ls.take (k + 1)) = totL (ls.take k) + tot ls[k]!.rests := by
  rw [ltake_at hk, totL_append]; simp only [totL]; omega
theorem totL_le (ls : List L) (h : ∀ l ∈ ls, lchk l = 0) : 0 ≤ totL ls ∧ totL ls ≤ 1200000 * (ls.length : Int) := by
  induction ls with
  | nil => simp [totL]
  | cons x t ih =>
    have h1 := ih (fun l hl => h l (by simp [hl]))
    obtain ⟨h60, hg⟩ := (qchk_zero x.rests).1 (lchk_zero (h x (by simp))).2.2
    have h2 := tot_le x.rests hg.1
    simp only [totL, List.length_cons]
    omega
theorem ls_someM {w : World} {q : Option Addr} {n c : Nat} {ls : List L} (h : LS w (.slice q n c) ls) {k : Nat} (hk : k < ls.length) : ∃ b o, q = some ⟨b, o, none⟩ ∧ b < w.heap.size ∧ LL w b o ls := by
  rcases h with ⟨e, e2⟩ | ⟨b, o, c', e, -, -, hb, hl⟩
  · rw [e2] at hk; exact absurd hk (Nat.not_lt_zero _)
  · cases e; exact ⟨b, o, rfl, hb, hl⟩

set_option maxRecDepth 100000 in
set_option maxHeartbeats 4000000 in
theorem whole_any (q1 q2 : Option Addr) (n1 n2 c1 c2 : Nat) (bs ss : List L) (w : World) (h1 : LS w (.slice q1 n1 c1) bs) (h2 : LS w (.slice q2 n2 c2) ss) (h0 : bookE bs ss = 0) :
    Calls Try.prog 13 #[.agg #[.slice q1 n1 c1, .slice q2 n2 c2]] w fun e w' => e = .returned (.int .i64 (totL bs + totL ss)) ∧ Below w.heap.size w w' := by
  obtain ⟨e1, e2, -⟩ := book_zero h0
  have g1 := sgo_each (schk_zero e1).2.1
  have g2 := sgo_each (schk_zero e2).2.1
  have m1 : bs.length ≤ 60 := by have := len_le (side_ne e1); have := (schk_zero e1).2.2.1; omega
  have m2 : ss.length ≤ 60 := by have := len_le (side_ne e2); have := (schk_zero e2).2.2.1; omega
  obtain ⟨V, hV⟩ : ∃ V, V = w.alloc (.cells #[.slice q1 n1 c1, .slice q2 n2 c2] 24) := ⟨_, rfl⟩
  have HB : Hid (Below w.heap.size w V) := by rw [hV]; exact (Below.refl _ _).alloc (Nat.le_refl _) _
  have v0 : V.cell? ⟨w.heap.size, 0, none⟩ = some (.slice q1 n1 c1) := by rw [hV]; simp [go_sem]
  have v1 : V.cell? ⟨w.heap.size, 1, none⟩ = some (.slice q2 n2 c2) := by rw [hV]; simp [go_sem]
  have HV : Hid (∀ W, Below V.heap.size V W → Below w.heap.size w W ∧ W.cell? ⟨w.heap.size, 0, none⟩ = some (.slice q1 n1 c1) ∧ W.cell? ⟨w.heap.size, 1, none⟩ = some (.slice q2 n2 c2)) := fun W hW => ⟨HB.out.trans (hW.mono HB.out.size), keeps hW v0, keeps hW v1⟩
  have HL1 : Hid (LS w (.slice q1 n1 c1) bs ∧ n1 = bs.length ∧ (∀ l ∈ bs, lchk l = 0) ∧ n1 ≤ 60) := ⟨h1, ls_len h1, g1, by rw [ls_len h1]; exact m1⟩
  have HL2 : Hid (LS w (.slice q2 n2 c2) ss ∧ n2 = ss.length ∧ (∀ l ∈ ss, lchk l = 0) ∧ n2 ≤ 60) := ⟨h2, ls_len h2, g2, by rw [ls_len h2]; exact m2⟩
  generalize hT : totL bs + totL ss = TT
  have HT : Hid (totL bs + totL ss = TT) := hT
  clear hT h1 h2 h0 e1 e2 g1 g2 m1 m2 v0 v1
  go_enter Try.func13, Try.ntmps13
  go_wp2_with fail
  rw [← hV]
  clear hV
  go_loopg [3, 4, 5] n1 (fun gg s3 s4 _ wr => ∃ kk : Nat, kk ≤ n1 ∧ n1 - kk ≤ gg ∧ s4 = .int .i64 kk ∧ s3 = .int .i64 (totL (bs.take kk)) ∧ Aside (Below V.heap.size V wr))
  case atStart => exact ⟨0, Nat.zero_le _, by omega, rfl, rfl, Below.refl _ _⟩
  case round =>
    obtain ⟨kk, hkk, hg, rfl, rfl, BW⟩ := hrel
    obtain ⟨hw, d0, d1⟩ := HV.out wr BW.out
    have hn60 := HL1.out.2.2.2
    by_cases hlt : kk < n1
    · have hltz : (kk : Int) < (n1 : Int) := by omega
      have hlz : kk < bs.length := by rw [← HL1.out.2.1]; exact hlt
      obtain ⟨b, o, hq, hb, hLL⟩ := ls_someM (HL1.out.1.below hw) hlz
      subst hq
      obtain ⟨r, hr⟩ : ∃ r, bs[kk]! = r := ⟨_, rfl⟩
      obtain ⟨p, zs⟩ := r
      obtain ⟨rq, rc, c0, c1', hsl⟩ := hLL.at hlz hr
      have hlk := HL1.out.2.2.1 bs[kk]! (by rw [getE _ _ hlz]; exact List.getElem_mem hlz)
      rw [hr] at hlk
      have HTO : Hid (Calls Try.prog 31 #[.slice rq zs.length rc] wr fun e w' => e = .returned (.int .i64 (tot zs)) ∧ Below wr.heap.size wr w') := rtotal_any _ zs wr (hsl.sl (lchk_zero hlk).2.1) (lchk_zero hlk).2.2
      have HST : Hid (totL (bs.take (kk + 1)) = totL (bs.take kk) + tot zs) := by have h := totL_take bs kk hlz; rw [hr] at h; exact h
      have hb1 := totL_le (bs.take kk) (fun l hl => HL1.out.2.2.1 l (List.mem_of_mem_take hl))
      have hb2 := totL_le (bs.take (kk + 1)) (fun l hl => HL1.out.2.2.1 l (List.mem_of_mem_take hl))
      rw [List.length_take] at hb1 hb2
      have E1 : Hid (wrap64 (totL (bs.take kk) + tot zs) = totL (bs.take (kk + 1))) := by show _ = _; rw [← HST.out]; unfold wrap64; omega
      have E2 : Hid (wrap64 ((kk : Int) + 1) = ((kk + 1 : Nat) : Int)) := by show _ = _; clear hb1 hb2; unfold wrap64; omega
      have hin1 : ¬ ((kk : Int) < 0) := Int.not_lt.2 (Int.natCast_nonneg _)
      have HM : Hid (n1 - (kk + 1) < gk ∧ kk < n1) := ⟨by omega, hlt⟩
      obtain ⟨Sn, hSn⟩ : ∃ Sn, totL (bs.take (kk + 1)) = Sn := ⟨_, rfl⟩
      have HSn : Hid (totL (bs.take (kk + 1)) = Sn) := hSn
      rw [hSn] at E1
      clear hLL hr hsl hlk hb1 hb2 hkk hg hn60 hlt HST hSn hlz
      generalize totL (bs.take kk) = S0 at *
      go_wp2_with fail
      refine HTO.out.mono ?_
      rintro e w2 ⟨rfl, b2⟩
      have HB2 : Hid (Below V.heap.size V w2) := BW.out.trans (b2.mono BW.out.size)
      clear b2 c0 c1' d0 d1
      generalize tot zs = tz at *
      have x1 := E1.out
      have x2 := E2.out
      go_wp2_with fail
      go_roundg (n1 - (kk + 1))
      case measure => exact HM.out.1
      case rel => exact ⟨kk + 1, HM.out.2, Nat.le_refl _, by go_num, by rw [HSn.out]; first | exact congrArg (Value.int .i64) E1.out | rfl, HB2.out⟩
    · have hltz : ¬ (kk : Int) < (n1 : Int) := by omega
      have hS : totL (bs.take kk) = totL bs := by rw [List.take_of_length_le (by rw [← HL1.out.2.1]; omega)]
      rw [hS]
      clear hS
      have HBW : Hid (Below V.heap.size V wr) := BW.out
      have HBD : Hid (0 ≤ totL bs ∧ totL bs ≤ 72000000) := by
        have h := totL_le bs HL1.out.2.2.1
        have h2 := HL1.out
        exact ⟨h.1, by omega⟩
      generalize wr = wo at *
      clear hkk hg hn60 hlt BW
      go_wp2_with fail
      clear hltz d0 d1
      go_loopg [3, 6, 7] n2 (fun gg s3 s6 _ wx => ∃ jj : Nat, jj ≤ n2 ∧ n2 - jj ≤ gg ∧ s6 = .int .i64 jj ∧ s3 = .int .i64 (totL bs + totL (ss.take jj)) ∧ Aside (Below V.heap.size V wx))
      case atStart => exact ⟨0, Nat.zero_le _, by omega, rfl, by simp [totL], HBW.out⟩
      case round =>
        obtain ⟨jj, hjj, hg, rfl, rfl, BW⟩ := hrel
        obtain ⟨hw, d0, d1⟩ := HV.out wr BW.out
        have hn60 := HL2.out.2.2.2
        by_cases hlt : jj < n2
        · have hltz : (jj : Int) < (n2 : Int) := by omega
          have hlz : jj < ss.length := by rw [← HL2.out.2.1]; exact hlt
          obtain ⟨b, o, hq, hb, hLL⟩ := ls_someM (HL2.out.1.below hw) hlz
          subst hq
          obtain ⟨r, hr⟩ : ∃ r, ss[jj]! = r := ⟨_, rfl⟩
          obtain ⟨p, zs⟩ := r
          obtain ⟨rq, rc, c0, c1', hsl⟩ := hLL.at hlz hr
          have hlk := HL2.out.2.2.1 ss[jj]! (by rw [getE _ _ hlz]; exact List.getElem_mem hlz)
          rw [hr] at hlk
          have HTO : Hid (Calls Try.prog 31 #[.slice rq zs.length rc] wr fun e w' => e = .returned (.int .i64 (tot zs)) ∧ Below wr.heap.size wr w') := rtotal_any _ zs wr (hsl.sl (lchk_zero hlk).2.1) (lchk_zero hlk).2.2
          have HST : Hid (totL (ss.take (jj + 1)) = totL (ss.take jj) + tot zs) := by have h := totL_take ss jj hlz; rw [hr] at h; exact h
          have hb1 := totL_le (ss.take jj) (fun l hl => HL2.out.2.2.1 l (List.mem_of_mem_take hl))
          have hb2 := totL_le (ss.take (jj + 1)) (fun l hl => HL2.out.2.2.1 l (List.mem_of_mem_take hl))
          rw [List.length_take] at hb1 hb2
          have hb3 := HBD.out
          have E1 : Hid (wrap64 (totL bs + totL (ss.take jj) + tot zs) = totL bs + totL (ss.take (jj + 1))) := by show _ = _; have h := HST.out; unfold wrap64; omega
          have E2 : Hid (wrap64 ((jj : Int) + 1) = ((jj + 1 : Nat) : Int)) := by show _ = _; clear hb1 hb2 hb3; unfold wrap64; omega
          have hin1 : ¬ ((jj : Int) < 0) := Int.not_lt.2 (Int.natCast_nonneg _)
          have HM : Hid (n2 - (jj + 1) < gk ∧ jj < n2) := ⟨by omega, hlt⟩
          obtain ⟨Sn, hSn⟩ : ∃ Sn, totL bs + totL (ss.take (jj + 1)) = Sn := ⟨_, rfl⟩
          have HSn : Hid (totL bs + totL (ss.take (jj + 1)) = Sn) := hSn
          rw [hSn] at E1
          clear hLL hr hsl hlk hb1 hb2 hb3 hjj hg hn60 hlt HST hSn hlz
          generalize totL bs + totL (ss.take jj) = S0 at *
          go_wp2_with fail
          refine HTO.out.mono ?_
          rintro e w2 ⟨rfl, b2⟩
          have HB2 : Hid (Below V.heap.size V w2) := BW.out.trans (b2.mono BW.out.size)
          clear b2 c0 c1' d0 d1
          generalize tot zs = tz at *
          have x1 := E1.out
          have x2 := E2.out
          go_wp2_with fail
          go_roundg (n2 - (jj + 1))
          case measure => exact HM.out.1
          case rel => exact ⟨jj + 1, HM.out.2, Nat.le_refl _, by go_num, by rw [HSn.out]; first | exact congrArg (Value.int .i64) E1.out | rfl, HB2.out⟩
        · have hltz : ¬ (jj : Int) < (n2 : Int) := by omega
          have hS : totL bs + totL (ss.take jj) = TT := by rw [List.take_of_length_le (by rw [← HL2.out.2.1]; omega)]; exact HT.out
          rw [hS]
          clear hS
          go_wp2_with fail
          go_ret
          exact ⟨rfl, hw⟩
end Go.Proofs.Ytegbicmfgblphaa.mee
