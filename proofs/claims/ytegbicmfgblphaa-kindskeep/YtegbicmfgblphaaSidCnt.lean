/- Contracts over this seat's translation: side.count. -/
import Derived.Test.YtegbicmfgblphaaSidChk
namespace Go.Proofs.Ytegbicmfgblphaa.sid
open Go.RowKit Go.Proofs.Ytegbicmfgblphaa.spn Go.Proofs.Ytegbicmfgblphaa.que

/-- Levels lie there one behind the other, and the rests of each where its slice points. -/
def LL (w : World) (b o : Nat) (ls : List L) : Prop := ∀ k, k < ls.length → w.cell? ⟨b, o + k * 2, none⟩ = some (.int .i64 ls[k]!.price) ∧ ∃ v, w.cell? ⟨b, o + k * 2 + 1, none⟩ = some v ∧ SLe w v ls[k]!.rests
/-- A slice value that reads as a list of levels. -/
def LS (w : World) (v : Value) (ls : List L) : Prop :=
  (v = .slice none 0 0 ∧ ls = []) ∨ ∃ b o c, v = .slice (some ⟨b, o, none⟩) ls.length c ∧ ls.length ≤ c ∧ c ≤ 9223372036854775807 ∧ b < w.heap.size ∧ LL w b o ls
theorem LL.below {w w' : World} {b o : Nat} {ls : List L} (h : LL w b o ls) (hb : b < w.heap.size) (hB : Below w.heap.size w w') : LL w' b o ls := by
  intro k hk
  obtain ⟨h1, v, h2, h3⟩ := h k hk
  exact ⟨(hB.cell (p := ⟨b, o + k * 2, none⟩) hb).trans h1, v, (hB.cell (p := ⟨b, o + k * 2 + 1, none⟩) hb).trans h2, h3.below hB⟩
theorem LS.below {w w' : World} {v : Value} {ls : List L} (h : LS w v ls) (hB : Below w.heap.size w w') : LS w' v ls := by
  rcases h with h | ⟨b, o, c, h1, h2, h3, h4, h5⟩
  · exact .inl h
  · exact .inr ⟨b, o, c, h1, h2, h3, Nat.lt_of_lt_of_le h4 hB.size, h5.below h4 hB⟩
theorem LL.at {w : World} {b o k : Nat} {ls : List L} (h : LL w b o ls) (hk : k < ls.length) {p : Int} {zs : List R} (he : ls[k]! = ⟨p, zs⟩) :
    ∃ q c, w.cell? ⟨b, o + k * 2, none⟩ = some (.int .i64 p) ∧ w.cell? ⟨b, o + k * 2 + 1, none⟩ = some (.slice q zs.length c) ∧ SLe w (.slice q zs.length c) zs := by
  obtain ⟨h1, v, h2, h3⟩ := h k hk
  rw [he] at h1 h3
  obtain ⟨q, c, hv⟩ := sl_form h3
  subst hv
  exact ⟨q, c, h1, h2, h3⟩
theorem ldrop_at {ls : List L} {k : Nat} (hk : k < ls.length) : ls.drop k = ls[k]! :: ls.drop (k + 1) := by
  rw [List.drop_eq_getElem_cons hk, getE _ _ hk]
theorem ltake_at {ls : List L} {k : Nat} (hk : k < ls.length) : ls.take (k + 1) = ls.take k ++ [ls[k]!] := by
  rw [List.take_succ_eq_append_getElem hk, getE _ _ hk]
theorem cnt_append (a b : List L) : cnt (a ++ b) = cnt a + cnt b := by
  induction a with
  | nil => simp [cnt]
  | cons x t ih => simp only [List.cons_append, cnt, ih]; omega
theorem cnt_take (ls : List L) (k : Nat) (hk : k < ls.length) : cnt (ls.take (k + 1)) = cnt (ls.take k) + (ls[k]!.rests.length : Int) := by
  rw [ltake_at hk, cnt_append]; simp only [cnt]; omega
theorem cnt_le (ls : List L) (h : ∀ l ∈ ls, l.rests.length ≤ 60) : 0 ≤ cnt ls ∧ cnt ls ≤ 60 * (ls.length : Int) := by
  induction ls with
  | nil => simp [cnt]
  | cons x t ih =>
    have h1 := h x (by simp)
    have h2 := ih (fun l hl => h l (by simp [hl]))
    simp only [cnt, List.length_cons]
    omega

set_option maxRecDepth 100000 in
set_option maxHeartbeats 1000000 in
theorem count_some (b o c : Nat) (ls : List L) (w : World) (hb : b < w.heap.size) (hc : ls.length ≤ c) (hl : LL w b o ls) (h60 : ∀ l ∈ ls, l.rests.length ≤ 60) (h10 : ls.length ≤ 10000) :
    Calls Try.prog 65 #[.slice (some ⟨b, o, none⟩) ls.length c] w fun e w' => e = .returned (.int .i64 (cnt ls)) ∧ Below w.heap.size w w' := by
  have HG : Hid (∀ l ∈ ls, l.rests.length ≤ 60) := h60
  have HL : Hid (LL w b o ls) := hl
  clear hl h60
  generalize hT : cnt ls = T
  have HT : Hid (cnt ls = T) := hT
  clear hT
  generalize hn : ls.length = n at *
  have HN : Hid (ls.length = n) := hn
  clear hn
  go_enter Try.func65, Try.ntmps65
  go_wp2_with fail
  go_loopg [3, 5, 8] n (fun gg s5 _ s15 wr => ∃ kk : Nat, kk ≤ n ∧ n - kk ≤ gg ∧ s15 = .int .i64 kk ∧ s5 = .int .i64 (cnt (ls.take kk)) ∧ Aside (Below w.heap.size w wr))
  case atStart => exact ⟨0, Nat.zero_le _, by omega, rfl, rfl, Below.refl _ _⟩
  case round =>
    obtain ⟨kk, hkk, hg, rfl, rfl, BW⟩ := hrel
    have hA : Hid (0 ≤ cnt (ls.take kk) ∧ cnt (ls.take kk) ≤ 60 * (kk : Int)) := by
      have := cnt_le (ls.take kk) (fun r hr => HG.out r (List.mem_of_mem_take hr))
      rw [List.length_take, HN.out, Nat.min_eq_left hkk] at this
      exact this
    by_cases hlt : kk < n
    · have hltz : (kk : Int) < (n : Int) := by omega
      have hlz : kk < ls.length := by rw [HN.out]; exact hlt
      have LW : Hid (LL wr b o ls) := HL.out.below hb BW.out
      obtain ⟨r, hr⟩ : ∃ r, ls[kk]! = r := ⟨_, rfl⟩
      obtain ⟨p, zs⟩ := r
      obtain ⟨q, cc, c0, c1, hs⟩ := LW.out.at hlz hr
      have hq := HG.out ls[kk]! (by rw [getE _ _ hlz]; exact List.getElem_mem hlz)
      rw [hr] at hq
      simp only [] at hq
      have hTT : Hid (cnt (ls.take (kk + 1)) = cnt (ls.take kk) + (zs.length : Int)) := by
        have := cnt_take ls kk hlz
        rw [hr] at this
        exact this
      clear hr hs
      obtain ⟨t1, t2⟩ := hA.out
      clear hA
      generalize cnt (ls.take kk) = t at *
      generalize zs.length = m at *
      have hbw : b < wr.heap.size := Nat.lt_of_lt_of_le hb BW.out.size
      have hin1 : ¬ ((kk : Int) < 0) := by omega
      have e2 : wrap64 (t + (m : Int)) = t + (m : Int) := by unfold wrap64; omega
      go_wp2_with fail
      go_roundg (n - (kk + 1))
      case measure => omega
      case rel => exact ⟨kk + 1, by omega, by omega, by go_num, by rw [hTT.out], BW.out.alloc BW.out.size _⟩
    · have hltz : ¬ (kk : Int) < (n : Int) := by omega
      have hk : kk = n := by omega
      subst hk
      have hT2 : cnt (ls.take kk) = T := by rw [← HT.out, List.take_of_length_le (by rw [HN.out]; exact Nat.le_refl _)]
      rw [hT2]
      go_wp2_with fail
      go_ret
      exact ⟨rfl, BW.out⟩
theorem count_nil (w : World) :
    Calls Try.prog 65 #[.slice none 0 0] w fun e w' => e = .returned (.int .i64 0) ∧ Below w.heap.size w w' := by
  go_enter Try.func65, Try.ntmps65
  go_wp2_with fail
  go_loopg [3, 5, 8] 0 (fun _ s5 _ s15 wr => s15 = .int .i64 0 ∧ s5 = .int .i64 0 ∧ wr = w)
  case atStart => exact ⟨rfl, rfl, rfl⟩
  case round =>
    obtain ⟨rfl, rfl, rfl⟩ := hrel
    go_wp2_with fail
    go_ret
    exact ⟨rfl, Below.refl _ _⟩
/-- count, at a side whose levels are not too many. -/
theorem count_any (v : Value) (ls : List L) (w : World) (h : LS w v ls) (h60 : ∀ l ∈ ls, l.rests.length ≤ 60) (h10 : ls.length ≤ 10000) :
    Calls Try.prog 65 #[v] w fun e w' => e = .returned (.int .i64 (cnt ls)) ∧ Below w.heap.size w w' := by
  rcases h with ⟨rfl, rfl⟩ | ⟨b, o, c, rfl, h2, h3, h4, h5⟩
  · exact count_nil w
  · exact count_some b o c ls w h4 h2 h5 h60 h10
end Go.Proofs.Ytegbicmfgblphaa.sid
