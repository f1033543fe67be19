/- Contracts over this seat's translation: side.see. Plain facts: what is wrong with a side. -/
import Derived.Test.YtnjpjieedgmffaaSidMap
namespace Go.Proofs.Ytnjpjieedgmffaa.sid
open Go.RowKit Go.Proofs.Ytnjpjieedgmffaa.spn Go.Proofs.Ytnjpjieedgmffaa.que Go.Maps

theorem lawI : Keyed Try.prog 3 := int_keyed Try.underlying3
/-- The map of places that the call has made. -/
def Own (W : World) (B : Nat) (ps : List P3) : Prop := W.ownsMap Try.prog 3 plR B ps.length (mapD ps)
theorem Own.alloc {W : World} {B : Nat} {ps : List P3} (h : Own W B ps) (o : Obj) : Own (W.alloc o) B ps := World.ownsMap.alloc h o
theorem Own.snoc {W : World} {B : Nat} {ps : List P3} {x : P3} (h : W.ownsMap Try.prog 3 plR B (ps.length + 1) ((mapD ps).put (.int .i64 x.1) (plD x.2.1 x.2.2))) : Own W B (ps ++ [x]) := by
  unfold Own; rw [mapD_snoc, List.length_append]; exact h
theorem id_wf {zs : List R} (h : qchk zs = 0) {r : R} (hr : r ∈ zs) : (Lit.int .i64 r.id).wf = true := by
  have := (rchk_zero (((qchk_zero zs).1 h).2.1 r hr)).2.2.2.2.2.1
  have e : wrap64 r.id = r.id := by unfold wrap64; omega
  rw [← e]
  exact wrap64_wf _
/-- A slice of rests that has a place has memory. -/
theorem sl_some {W : World} {q : Option Addr} {m cc : Nat} {zs : List R} (h : SLe W (.slice q m cc) zs) {j : Nat} (hj : j < zs.length) : ∃ b o, q = some ⟨b, o, none⟩ ∧ m = zs.length ∧ b < W.heap.size ∧ Lies W b o zs := by
  rcases h.sl (fun e => by rw [e] at hj; cases hj) with ⟨_, h2⟩ | ⟨b, o, c, h1, _, _, h4, h5⟩
  · rw [h2] at hj; cases hj
  · injection h1 with h6 h7 h8
    exact ⟨b, o, h6, h7, h4, h5⟩
theorem flat_le (ls : List L) (hq : ∀ l ∈ ls, qchk l.rests = 0) (i : Int) : (flatP i ls).length ≤ 60 * ls.length := by
  have h := cnt_le ls (fun l hl => ((qchk_zero _).1 (hq l hl)).1)
  have := flatP_len i ls
  omega

set_option maxRecDepth 100000 in
set_option maxHeartbeats 2000000 in
theorem see_some (b o c : Nat) (ls : List L) (w : World) (hb : b < w.heap.size) (hc : ls.length ≤ c) (hl : LL w b o ls) (hq : ∀ l ∈ ls, qchk l.rests = 0) (h10 : ls.length ≤ 10000) :
    Calls Try.prog 79 #[.slice (some ⟨b, o, none⟩) ls.length c] w fun e w' => e = .returned (.map (some w.heap.size)) ∧ Own w' w.heap.size (flatP 0 ls) ∧ Below w.heap.size w w' := by
  have hmm := @run_makeMap Try.prog
  have HG : Hid (∀ l ∈ ls, qchk l.rests = 0) := hq
  have HL : Hid (LL w b o ls) := hl
  clear hl hq
  generalize hn : ls.length = n at *
  have HN : Hid (ls.length = n) := hn
  clear hn
  go_enter Try.func79, Try.ntmps79
  go_wp2_with fail
  go_loopg [4, 5, 6, 7, 11] n (fun gg _ _ _ _ s11 wr => ∃ kk : Nat, kk ≤ n ∧ n - kk ≤ gg ∧ s11 = .int .i64 kk ∧ Aside (Below w.heap.size w wr) ∧ Aside (Own wr w.heap.size (flatP 0 (ls.take kk))))
  case atStart => exact ⟨0, Nat.zero_le _, by omega, rfl, (Below.refl _ _).alloc (Nat.le_refl _) _, World.ownsMap_made _ _ _ _⟩
  case round =>
    obtain ⟨kk, hkk, hg, rfl, BW, OW⟩ := hrel
    by_cases hlt : kk < n
    · have hltz : (kk : Int) < (n : Int) := by omega
      have hlz : kk < ls.length := by rw [HN.out]; exact hlt
      obtain ⟨r, hr⟩ : ∃ r, ls[kk]! = r := ⟨_, rfl⟩
      obtain ⟨p, zs⟩ := r
      obtain ⟨q, cc, a0, a1, hs⟩ := HL.out.at hlz hr
      have c0 := keeps BW.out a0
      have c1 := keeps BW.out a1
      have hbw : b < wr.heap.size := Nat.lt_of_lt_of_le hb BW.out.size
      have hin1 : ¬ ((kk : Int) < 0) := by omega
      have HT : Hid (flatP 0 (ls.take (kk + 1)) = flatP 0 (ls.take kk) ++ rowP kk 0 zs) := by
        have := flatP_snoc 0 (ls.take kk) ls[kk]!
        rw [← ltake_at hlz, List.length_take, HN.out, Nat.min_eq_left hkk, hr, Int.zero_add] at this
        exact this
      have hqz := HG.out ls[kk]! (by rw [getE _ _ hlz]; exact List.getElem_mem hlz)
      rw [hr] at hqz
      have HQ : Hid (qchk zs = 0) := hqz
      have HF : Hid ((flatP 0 (ls.take kk)).length ≤ 60 * kk) := by
        have := flat_le (ls.take kk) (fun l hl => HG.out l (List.mem_of_mem_take hl)) 0
        rw [List.length_take, HN.out, Nat.min_eq_left hkk] at this
        exact this
      have h60 : zs.length ≤ 60 := ((qchk_zero zs).1 hqz).1
      have HV : Hid (Below w.heap.size w (wr.alloc (.cells #[.int .i64 p, .slice q zs.length cc] 31))) := BW.out.alloc BW.out.size _
      have OV : Hid (Own (wr.alloc (.cells #[.int .i64 p, .slice q zs.length cc] 31)) w.heap.size (flatP 0 (ls.take kk))) := Own.alloc OW.out _
      have SV : Hid (SLe w (.slice q zs.length cc) zs) := hs
      generalize hm : zs.length = m at *
      have HM : Hid (zs.length = m) := hm
      generalize hfp : flatP 0 (ls.take kk) = FP at *
      clear hr hs hqz hm hfp OW BW a0 a1
      go_wp2_with fail
      generalize wr.alloc (.cells #[.int .i64 p, .slice q m cc] 31) = V at *
      go_loopg [6, 7, 19] m (fun g2 _ _ s19 wi => ∃ jj : Nat, jj ≤ m ∧ m - jj ≤ g2 ∧ s19 = .int .i64 jj ∧ Aside (Below w.heap.size w wi) ∧ Aside (Own wi w.heap.size (FP ++ rowP kk 0 (zs.take jj))))
      case atStart => exact ⟨0, Nat.zero_le _, by omega, rfl, HV.out, by rw [List.take_zero, rowP, List.append_nil]; exact OV.out⟩
      case round =>
        obtain ⟨jj, hjj, hg2, rfl, BI, OI⟩ := hrel
        by_cases hlt2 : jj < m
        · have hltz2 : (jj : Int) < (m : Int) := by omega
          have hlz2 : jj < zs.length := by rw [HM.out]; exact hlt2
          obtain ⟨b2, o2, rfl, -, hb2, hl2⟩ := sl_some SV.out hlz2
          have L2 := hl2.below hb2 BI.out
          obtain ⟨r, hr⟩ : ∃ r, zs[jj]! = r := ⟨_, rfl⟩
          obtain ⟨r1, r2, r3, r4, r5⟩ := r
          obtain ⟨d0, d1, d2, d3, d4⟩ := lies_at L2 hlz2 hr
          have hin2 : ¬ ((jj : Int) < 0) := by omega
          have hwf : (Lit.int .i64 r1).wf = true := by
            have := id_wf HQ.out (r := zs[jj]!) (by rw [getE _ _ hlz2]; exact List.getElem_mem hlz2)
            rw [hr] at this
            exact this
          have hkey : keyOf Try.prog 3 (.int .i64 r1) = some (.int .i64 r1) := keyOf_int_mk Try.underlying3 hwf
          have HP : Hid (rowP kk 0 (zs.take (jj + 1)) = rowP kk 0 (zs.take jj) ++ [(r1, (kk : Int), (jj : Int))]) := by
            have := rowP_snoc kk 0 (zs.take jj) zs[jj]!
            rw [← take_at hlz2, List.length_take, HM.out, Nat.min_eq_left hjj, hr, Int.zero_add] at this
            exact this
          have HN2 : (FP ++ rowP kk 0 (zs.take jj)).length < maxLen := by
            have h1 := HF.out
            rw [List.length_append, rowP_len, List.length_take]
            unfold maxLen
            omega
          generalize hps : FP ++ rowP kk 0 (zs.take jj) = PS at *
          clear hr L2 hl2 hwf
          have HB2 : Hid (Below w.heap.size w (wr.alloc (.cells #[.int .i64 r1, .int .i64 r2, .int .i64 r3, .int .i64 r4, .int .i64 r5] 28))) := BI.out.alloc BI.out.size _
          have HO2 : Hid (Own (wr.alloc (.cells #[.int .i64 r1, .int .i64 r2, .int .i64 r3, .int .i64 r4, .int .i64 r5] 28)) w.heap.size PS) := Own.alloc OI.out _
          go_wp2_with (at_mapUpdate; refine wpList_mapUpdate_own _ rfl _ _ _ 109 rfl 3 114 lawI Try.underlying109 plR w.heap.size PS.length (mapD PS) rfl HO2.out HN2 _ _ _ rfl rfl hkey _ [] (plR_mk _ _) ?_; intro w1 hown1 hgrow1)
          have H1 : Hid (Own w1 w.heap.size (FP ++ rowP kk 0 (zs.take (jj + 1)))) := by
            rw [HP.out, ← List.append_assoc, hps]
            exact Own.snoc hown1
          have H2 : Hid (Below w.heap.size w w1) := HB2.out.grown hgrow1 HB2.out.size (fun k hk => by cases hk; exact Nat.le_refl _)
          clear hown1 hgrow1 HB2 HO2
          go_wp2_with fail
          go_roundg (m - (jj + 1))
          case measure => omega
          case rel => exact ⟨jj + 1, by omega, by omega, by go_num, H2.out, H1.out⟩
        · have hltz2 : ¬ (jj : Int) < (m : Int) := by omega
          have hj : jj = m := by omega
          subst hj
          have H1 : Hid (Own wr w.heap.size (flatP 0 (ls.take (kk + 1)))) := by
            rw [HT.out]
            have := OI.out
            rwa [List.take_of_length_le (by rw [HM.out]; exact Nat.le_refl _)] at this
          go_wp2_with fail
          go_roundg (n - (kk + 1))
          case measure => omega
          case rel => exact ⟨kk + 1, by omega, by omega, by go_num, BI.out, H1.out⟩
    · have hltz : ¬ (kk : Int) < (n : Int) := by omega
      have hk : kk = n := by omega
      subst hk
      have hT2 : ls.take kk = ls := List.take_of_length_le (by rw [HN.out]; exact Nat.le_refl _)
      rw [hT2] at OW
      go_wp2_with fail
      go_ret
      exact ⟨rfl, OW.out, BW.out⟩
set_option maxRecDepth 100000 in
theorem see_nil (w : World) :
    Calls Try.prog 79 #[.slice none 0 0] w fun e w' => e = .returned (.map (some w.heap.size)) ∧ Own w' w.heap.size [] ∧ Below w.heap.size w w' := by
  have hmm := @run_makeMap Try.prog
  go_enter Try.func79, Try.ntmps79
  go_wp2_with fail
  go_loopg [4, 5, 6, 7, 11] 0 (fun _ _ _ _ _ s11 wr => s11 = .int .i64 0 ∧ Aside (Below w.heap.size w wr) ∧ Aside (Own wr w.heap.size []))
  case atStart => exact ⟨rfl, (Below.refl _ _).alloc (Nat.le_refl _) _, World.ownsMap_made _ _ _ _⟩
  case round =>
    obtain ⟨rfl, BW, OW⟩ := hrel
    go_wp2_with fail
    go_ret
    exact ⟨rfl, OW.out, BW.out⟩
/-- see, at a side whose queues are right. -/
theorem see_any (v : Value) (ls : List L) (w : World) (h : LS w v ls) (hq : ∀ l ∈ ls, qchk l.rests = 0) (h10 : ls.length ≤ 10000) :
    Calls Try.prog 79 #[v] w fun e w' => e = .returned (.map (some w.heap.size)) ∧ Own w' w.heap.size (flatP 0 ls) ∧ Below w.heap.size w w' := by
  rcases h with ⟨rfl, rfl⟩ | ⟨b, o, c, rfl, h2, h3, h4, h5⟩
  · exact see_nil w
  · exact see_some b o c ls w h4 h2 h5 hq h10
end Go.Proofs.Ytnjpjieedgmffaa.sid
namespace Go.Proofs.Ytnjpjieedgmffaa.sid
open Go.RowKit Go.Proofs.Ytnjpjieedgmffaa.que
open Go.Proofs.Ytnjpjieedgmffaa.tickP (priceB sideB betOk betR)

/-- A level's price stands behind the one ahead of it. -/
def behindB (s : Int) (prev : Option Int) (b : Int) : Bool := match prev with | some p => leadB s p b | none => true
/-- What is wrong with the levels, each by itself and behind the one ahead of it. -/
def sgo (s : Int) : Option Int → List L → Int
  | _, [] => 0
  | prev, l :: t => if lchk l = 0 then (if behindB s prev l.price = true then sgo s (some l.price) t else 7) else lchk l
def ids (ls : List L) : List Int := (flatP 0 ls).map (·.1)
/-- What is wrong with a side. -/
def schk (s : Int) (ls : List L) : Int :=
  if sideB s = true then (if sgo s none ls = 0 then (if 60 < cnt ls then 4 else if (ids ls).Nodup then 0 else 7) else sgo s none ls) else 1

theorem lead_buy {a b : Int} (h : leadB 1 a b = true) : b < a := by
  have e : wrap64 (3 - 1) = 2 := by unfold wrap64; omega
  unfold leadB betR at h
  rw [e] at h
  simp at h
  exact h.2
theorem lead_sell {a b : Int} (h : leadB 2 a b = true) : a < b := by
  have e : wrap64 (3 - 2) = 1 := by unfold wrap64; omega
  unfold leadB betR at h
  rw [e] at h
  simp at h
  exact h.2
theorem lchk_zero {l : L} (h : lchk l = 0) : (1 ≤ l.price ∧ l.price ≤ 10000) ∧ l.rests ≠ [] ∧ qchk l.rests = 0 := by
  unfold lchk at h
  by_cases hp : priceB l.price = true
  · rw [if_pos hp] at h
    by_cases hz : l.rests = []
    · rw [if_pos hz] at h; cases h
    · rw [if_neg hz] at h
      refine ⟨?_, hz, h⟩
      simp [priceB] at hp; exact hp
  · rw [if_neg hp] at h; cases h
theorem sgo_cons {s : Int} {prev : Option Int} {l : L} {t : List L} (h : sgo s prev (l :: t) = 0) : lchk l = 0 ∧ behindB s prev l.price = true ∧ sgo s (some l.price) t = 0 := by
  unfold sgo at h
  by_cases h1 : lchk l = 0
  · rw [if_pos h1] at h
    by_cases h2 : behindB s prev l.price = true
    · rw [if_pos h2] at h; exact ⟨h1, h2, h⟩
    · rw [if_neg h2] at h; cases h
  · rw [if_neg h1] at h; exact absurd h h1
theorem sgo_each {s : Int} {prev : Option Int} {ls : List L} (h : sgo s prev ls = 0) : ∀ l ∈ ls, lchk l = 0 := by
  induction ls generalizing prev with
  | nil => intro l hl; cases hl
  | cons x t ih =>
    obtain ⟨h1, -, h3⟩ := sgo_cons h
    intro l hl
    rcases List.mem_cons.1 hl with e | e
    · rw [e]; exact h1
    · exact ih h3 l e
theorem sgo_buy {p : Int} {ls : List L} (h : sgo 1 (some p) ls = 0) (hp : 1 ≤ p) : (ls.length : Int) ≤ p - 1 := by
  induction ls generalizing p with
  | nil => simp; omega
  | cons x t ih =>
    obtain ⟨h1, h2, h3⟩ := sgo_cons h
    have := lead_buy h2
    have hx := (lchk_zero h1).1
    have := ih h3 hx.1
    simp only [List.length_cons]; omega
theorem sgo_sell {p : Int} {ls : List L} (h : sgo 2 (some p) ls = 0) (hp : p ≤ 10000) : (ls.length : Int) ≤ 10000 - p := by
  induction ls generalizing p with
  | nil => simp; omega
  | cons x t ih =>
    obtain ⟨h1, h2, h3⟩ := sgo_cons h
    have := lead_sell h2
    have hx := (lchk_zero h1).1
    have := ih h3 hx.2
    simp only [List.length_cons]; omega
/-- Levels that stand in order are not too many. -/
theorem sgo_len {s : Int} {ls : List L} (hs : sideB s = true) (h : sgo s none ls = 0) : ls.length ≤ 10000 := by
  cases ls with
  | nil => simp
  | cons x t =>
    obtain ⟨h1, -, h3⟩ := sgo_cons h
    have hx := (lchk_zero h1).1
    simp [sideB] at hs
    rcases hs with rfl | rfl
    · have := sgo_buy h3 hx.1; simp only [List.length_cons]; omega
    · have := sgo_sell h3 hx.2; simp only [List.length_cons]; omega

def prevAt (ls : List L) (k : Nat) : Option Int := if k = 0 then none else some ls[k - 1]!.price
theorem prevAt_zero (ls : List L) : prevAt ls 0 = none := rfl
theorem prevAt_succ (ls : List L) (k : Nat) : prevAt ls (k + 1) = some ls[k]!.price := rfl
/-- Where the loop stands at a level. -/
theorem sgo_at {s : Int} {ls : List L} {k : Nat} (hk : k < ls.length) : sgo s (prevAt ls k) (ls.drop k) =
    if lchk ls[k]! = 0 then (if behindB s (prevAt ls k) ls[k]!.price = true then sgo s (prevAt ls (k + 1)) (ls.drop (k + 1)) else 7) else lchk ls[k]! := by
  rw [ldrop_at hk, prevAt_succ]; rfl

theorem schk_side {s : Int} {ls : List L} (h : sideB s = false) : schk s ls = 1 := by unfold schk; rw [if_neg (by simp [h])]
theorem schk_go {s : Int} {ls : List L} (h : sideB s = true) (h2 : ¬ sgo s none ls = 0) : schk s ls = sgo s none ls := by unfold schk; rw [if_pos h, if_neg h2]
theorem schk_full {s : Int} {ls : List L} (h : sideB s = true) (h2 : sgo s none ls = 0) (h3 : 60 < cnt ls) : schk s ls = 4 := by unfold schk; rw [if_pos h, if_pos h2, if_pos h3]
theorem schk_two {s : Int} {ls : List L} (h : sideB s = true) (h2 : sgo s none ls = 0) (h3 : ¬ 60 < cnt ls) (h4 : ¬ (ids ls).Nodup) : schk s ls = 7 := by unfold schk; rw [if_pos h, if_pos h2, if_neg h3, if_neg h4]
theorem schk_ok {s : Int} {ls : List L} (h : sideB s = true) (h2 : sgo s none ls = 0) (h3 : ¬ 60 < cnt ls) (h4 : (ids ls).Nodup) : schk s ls = 0 := by unfold schk; rw [if_pos h, if_pos h2, if_neg h3, if_pos h4]
/-- What a side that is right gives. -/
theorem schk_zero {s : Int} {ls : List L} (h : schk s ls = 0) : sideB s = true ∧ sgo s none ls = 0 ∧ cnt ls ≤ 60 ∧ (ids ls).Nodup := by
  unfold schk at h
  by_cases h1 : sideB s = true
  · rw [if_pos h1] at h
    by_cases h2 : sgo s none ls = 0
    · rw [if_pos h2] at h
      by_cases h3 : 60 < cnt ls
      · rw [if_pos h3] at h; cases h
      · rw [if_neg h3] at h
        by_cases h4 : (ids ls).Nodup
        · exact ⟨h1, h2, by omega, h4⟩
        · rw [if_neg h4] at h; cases h
    · rw [if_neg h2] at h; exact absurd h h2
  · rw [if_neg h1] at h; cases h
end Go.Proofs.Ytnjpjieedgmffaa.sid
