/- Contracts over this seat's translation: the document's TapeBook. -/
import Derived.Test.YtgpbpaimfhlnhaaDoorTapBk
namespace Go.Proofs.YtgpbpaimfhlnhaaDoor.tap
open Go.RowKit Go.Proofs.YtgpbpaimfhlnhaaDoor.mee Go.Proofs.YtgpbpaimfhlnhaaDoor.flr Go.Maps
open Go.Proofs.YtgpbpaimfhlnhaaDoor.spn (keeps rangeE errV errV_zero errV_of)
open Go.Proofs.YtgpbpaimfhlnhaaDoor.wak (OwnM wpList_append_mid own_of own_range)

/-- What the document holds of an id, beside what was heard. -/
def DK (f : Fm) (id q p : Int) (a : Bool) : Prop := (0 < q ∧ q ≤ 10000 ∧ a = true ∧ f id = some (q, p)) ∨ (q = 0 ∧ f id = none)
theorem DK.zero (id : Int) : DK (fun _ => none) id 0 0 false := .inr ⟨rfl, rfl⟩
theorem DK.same {f g : Fm} {id q p : Int} {a : Bool} (h : DK f id q p a) (e : g id = f id) : DK g id q p a := by
  unfold DK
  rw [e]
  exact h
theorem DK.one {f : Fm} {e : Ev} {id : Int} (he : evB e = true) (h1 : e.what = 1) (h2 : e.id = id) : DK (hearF f e) id e.qty e.price true := by
  unfold evB at he
  rw [if_neg (by omega)] at he
  simp [otB] at he
  unfold hearF
  rw [if_pos h1]
  unfold DK setF
  rw [if_pos h2.symm]
  simp only
  by_cases h0 : e.qty ≤ 0
  · rw [if_pos h0]
    exact .inr ⟨by omega, rfl⟩
  · rw [if_neg h0]
    refine .inl ⟨by omega, by omega, ?_, ?_⟩ <;> first | rfl | trivial
theorem DK.three {f : Fm} {e : Ev} {id p : Int} {a : Bool} (h1 : e.what = 3) (h2 : e.id = id) : DK (hearF f e) id 0 p a := by
  unfold hearF
  rw [if_neg (by omega), if_neg (by omega), if_pos h1]
  refine .inr ⟨rfl, ?_⟩
  unfold delF
  rw [if_pos h2.symm]
theorem DK.two {f : Fm} {e : Ev} {id q p : Int} {a : Bool} (h : DK f id q p a) (he : evB e = true) (h1 : e.what = 2) (h2 : e.tr.maker = id) : DK (hearF f e) id (if q - e.tr.qty < 0 then 0 else q - e.tr.qty) p a := by
  unfold evB at he
  rw [if_pos h1] at he
  simp [tdB] at he
  unfold hearF
  rw [if_neg (by omega), if_pos h1]
  unfold DK setF
  rw [if_pos h2.symm, h2]
  rcases h with ⟨a1, a2, a3, a4⟩ | ⟨a1, a2⟩
  · rw [a4]
    simp only [Option.getD_some]
    by_cases h0 : q - e.tr.qty ≤ 0
    · rw [if_pos h0]
      refine .inr ⟨?_, rfl⟩
      split <;> omega
    · rw [if_neg h0, if_neg (by omega)]
      exact .inl ⟨by omega, by omega, a3, rfl⟩
  · rw [a2]
    simp only [Option.getD_none]
    rw [if_pos (show (0 : Int) - e.tr.qty ≤ 0 by omega)]
    refine .inr ⟨?_, rfl⟩
    subst a1
    split <;> omega
theorem hear_else {f : Fm} {e : Ev} {id : Int} (h1 : ¬ (e.what = 1 ∧ e.id = id)) (h3 : ¬ (e.what = 3 ∧ e.id = id)) (h2 : ¬ (e.what = 2 ∧ e.tr.maker = id)) : hearF f e id = f id := by
  unfold hearF
  split
  · unfold setF; rw [if_neg (fun x => h1 ⟨by assumption, x.symm⟩)]
  · split
    · unfold setF; rw [if_neg (fun x => h2 ⟨by assumption, x.symm⟩)]
    · split
      · unfold delF; rw [if_neg (fun x => h3 ⟨by assumption, x.symm⟩)]
      · rfl
/-- The rows of the first ids. -/
def rowsUp (f : Fm) (n : Nat) : List X3 := (List.range n).filterMap fun (i : Nat) => (f ((i : Int) + 1)).map fun a => ((i : Int) + 1, a.1, a.2)
theorem rowsUp_all (f : Fm) : rowsUp f 9999 = rowsOf f := rfl
theorem rowsUp_len (f : Fm) (n : Nat) : (rowsUp f n).length ≤ n := by
  unfold rowsUp
  exact Nat.le_trans (List.length_filterMap_le _ _) (by simp)
theorem rowsUp_yes {f : Fm} {n : Nat} {q p : Int} (h : f ((n : Int) + 1) = some (q, p)) : rowsUp f (n + 1) = rowsUp f n ++ [((n : Int) + 1, q, p)] := by
  unfold rowsUp
  rw [List.range_succ, List.filterMap_append]
  simp [h]
theorem rowsUp_no {f : Fm} {n : Nat} (h : f ((n : Int) + 1) = none) : rowsUp f (n + 1) = rowsUp f n := by
  unfold rowsUp
  rw [List.range_succ, List.filterMap_append]
  simp [h]

set_option maxRecDepth 100000 in
set_option maxHeartbeats 8000000 in
theorem rbook_any (v : Value) (zs : List Ev) (w : World) (h : EL w v zs) (h4 : zs.length ≤ 400) (hev : ∀ e ∈ zs, evB e = true) :
    Calls Tryd.prog 8 #[v] w fun e w' => ∃ x, e = .returned x ∧ Own3 w' w.heap.size x (rowsOf (heardF zs)) ∧ Below w.heap.size w w' := by
  obtain ⟨i0, hi0, hz0, hz1, hz2⟩ := infoX'
  have HI := hidT hi0
  obtain ⟨q, c, rfl, hnn⟩ := h.form
  have HEL := hidT h
  have HEV := hidT hev
  obtain ⟨n, hN⟩ : ∃ n, zs.length = n := ⟨_, rfl⟩
  have HN := hidT hN
  rw [hN] at h4 HEL
  simp only [hN]
  have hlen : (n : Int) ≤ 9223372036854775807 := by omega
  have HN4 := hidT h4
  have HO0 : Hid (Own3 w w.heap.size (.slice none 0 0) (rowsUp (heardF zs) 0)) := ⟨rfl, .inl ⟨rfl, rfl⟩⟩
  clear h hev h4 hN hnn hi0
  go_enter Tryd.func8, Tryd.ntmps8
  go_wp2_with fail
  go_loopg [3, 4, 5, 6, 7, 8, 9] 9999 (fun gg s3 s4 _ _ _ _ _ wr => ∃ (i m : Nat) (q' : Option Addr) (c' : Nat) (K : Int), i ≤ 9999 ∧ 9999 - i ≤ gg ∧ s3 = .slice q' m c' ∧ s4 = .int .i64 K ∧ Aside (K = (i : Int) + 1 ∧ m = (rowsUp (heardF zs) i).length ∧ Own3 wr w.heap.size (.slice q' m c') (rowsUp (heardF zs) i) ∧ Below w.heap.size w wr))
  case atStart => exact ⟨0, 0, none, 0, 1, Nat.zero_le _, by omega, rfl, rfl, rfl, rfl, HO0.out, Below.refl _ _⟩
  case round =>
    clear HO0
    obtain ⟨i, m, q', c', K, hi, hg, rfl, rfl, HA⟩ := hrel
    have hKe := HA.out.1
    by_cases hlt : i < 9999
    · have hltz : K ≤ 9999 := by omega
      have HII : Hid (i < 9999 ∧ 9999 - i ≤ gk ∧ K = (i : Int) + 1 ∧ 1 ≤ K ∧ K ≤ 9999) := ⟨hlt, hg, hKe, by omega, by omega⟩
      clear hi hg hlt hKe
      go_wp2_with fail
      generalize wr = W1 at *
      go_loopg [5, 6, 7, 8, 9] n (fun g2 s5 s6 s7 s8 _ wi => ∃ (jj : Nat) (Q P : Int) (a : Bool), jj ≤ n ∧ n - jj ≤ g2 ∧ s5 = .int .i64 Q ∧ s6 = .int .i64 P ∧ s7 = .bool a ∧ s8 = .int .i64 jj ∧ Aside (DK (heardF (zs.take jj)) K Q P a ∧ Below W1.heap.size W1 wi))
      case atStart => exact ⟨0, 0, 0, false, Nat.zero_le _, by omega, rfl, rfl, rfl, rfl, DK.zero K, Below.refl _ _⟩
      case round =>
        obtain ⟨jj, Q, P, a, hjj, hg2, rfl, rfl, rfl, rfl, HJ⟩ := hrel
        by_cases hlt2 : jj < n
        · have hltz2 : (jj : Int) < (n : Int) := by omega
          have hin2 : ¬ ((jj : Int) < 0) := by omega
          have hlz : jj < zs.length := by rw [HN.out]; exact hlt2
          obtain ⟨g, off, rfl, hgl, hcc⟩ := HEL.out.at hlz
          have hee := HEV.out _ (show zs[jj]! ∈ zs by rw [getE _ _ hlz]; exact List.getElem_mem hlz)
          have HPT := heardF_take hlz
          obtain ⟨x, hx⟩ : ∃ x, zs[jj]! = x := ⟨_, rfl⟩
          rw [hx] at hcc hee HPT
          have HK1 := hidT (fun h1 h2 => DK.one (f := heardF (zs.take jj)) (e := x) (id := K) hee h1 h2)
          have HK3 := hidT (fun h1 h2 => DK.three (f := heardF (zs.take jj)) (e := x) (id := K) (p := P) (a := a) h1 h2)
          have HK2 := hidT (fun h1 h2 => HJ.out.1.two hee h1 h2)
          have HK0 := hidT (fun h1 h3 h2 => HJ.out.1.same (hear_else (e := x) h1 h3 h2))
          rw [← HPT] at HK1 HK3 HK2 HK0
          have HBJ := hidT HJ.out.2
          have hQ : -1 < Q ∧ Q ≤ 10000 := by rcases HJ.out.1 with ⟨z1, z2, -⟩ | ⟨z1, -⟩ <;> omega
          have HBW : Hid (Below w.heap.size w wr) := HA.out.2.2.2.trans (HBJ.out.mono HA.out.2.2.2.size)
          obtain ⟨e1, e2, e3, e4, ⟨t1, t2, t3, t4, t5, t6⟩⟩ := x
          simp only at HK1 HK2 HK3 HK0
          have hft : e1 = 2 → 1 ≤ t6 ∧ t6 ≤ 10000 := fun h2 => by
            unfold evB at hee
            rw [if_pos h2] at hee
            simp [tdB] at hee
            omega
          have c0 := keeps HBW.out (hcc 0 _ rfl)
          have c1 := keeps HBW.out (hcc 1 _ rfl)
          have c2 := keeps HBW.out (hcc 2 _ rfl)
          have c3 := keeps HBW.out (hcc 3 _ rfl)
          have c4 := keeps HBW.out (hcc 4 _ rfl)
          have c5 := keeps HBW.out (hcc 5 _ rfl)
          have c6 := keeps HBW.out (hcc 6 _ rfl)
          have c7 := keeps HBW.out (hcc 7 _ rfl)
          have c8 := keeps HBW.out (hcc 8 _ rfl)
          have c9 := keeps HBW.out (hcc 9 _ rfl)
          simp only [Nat.add_zero] at c0
          have HWK := hidT (wrapSuccT jj n hlt2 (by have := HN4.out; omega))
          have HKK : Hid (jj < n ∧ n - jj ≤ gk) := ⟨hlt2, hg2⟩
          have HBA := hidT (HBJ.out.alloc HBJ.out.size (.cells #[.int .i64 e1, .int .i64 e2, .int .i64 e3, .int .i64 e4, .int .i64 t1, .int .i64 t2, .int .i64 t3, .int .i64 t4, .int .i64 t5, .int .i64 t6] 33))
          have hgw : g < wr.heap.size := Nat.lt_of_lt_of_le hgl HBW.out.size
          clear hcc hx hjj hg2 hlt2 hee HPT HJ
          by_cases h1 : e1 = 1
          · subst h1
            by_cases h2 : e2 = K
            · subst h2
              have HD := hidT (HK1.out rfl rfl)
              clear HK1 HK2 HK3 HK0 hft
              go_wp2_with fail
              go_roundg (n - (jj + 1))
              case measure => have := HKK.out; omega
              case rel => exact ⟨jj + 1, e3, e4, true, HKK.out.1, Nat.le_refl _, rfl, rfl, rfl, by go_num, HD.out, HBA.out⟩
            · have hb2 : (e2 == K) = false := by simp [h2]
              have HD := hidT (HK0.out (fun x => h2 x.2) (by omega) (by omega))
              clear HK1 HK2 HK3 HK0 hft
              go_wp2_with fail
              go_roundg (n - (jj + 1))
              case measure => have := HKK.out; omega
              case rel => exact ⟨jj + 1, Q, P, a, HKK.out.1, Nat.le_refl _, rfl, rfl, rfl, by go_num, HD.out, HBA.out⟩
          by_cases h3 : e1 = 3
          · subst h3
            by_cases h2 : e2 = K
            · subst h2
              have HD := hidT (HK3.out rfl rfl)
              clear HK1 HK2 HK3 HK0 hft
              go_wp2_with fail
              go_roundg (n - (jj + 1))
              case measure => have := HKK.out; omega
              case rel => exact ⟨jj + 1, 0, P, a, HKK.out.1, Nat.le_refl _, rfl, rfl, rfl, by go_num, HD.out, HBA.out⟩
            · have hb2 : (e2 == K) = false := by simp [h2]
              have HD := hidT (HK0.out (by omega) (fun x => h2 x.2) (by omega))
              clear HK1 HK2 HK3 HK0 hft
              go_wp2_with fail
              go_roundg (n - (jj + 1))
              case measure => have := HKK.out; omega
              case rel => exact ⟨jj + 1, Q, P, a, HKK.out.1, Nat.le_refl _, rfl, rfl, rfl, by go_num, HD.out, HBA.out⟩
          by_cases h4 : e1 = 2
          · subst h4
            by_cases h2 : t1 = K
            · subst h2
              have hD := HK2.out rfl rfl
              have htt := hft rfl
              have hws : wrap64 (Q - t6) = Q - t6 := by unfold wrap64; omega
              by_cases h5 : Q - t6 < 0
              · rw [if_pos h5] at hD
                have HD := hidT hD
                clear hD
                clear HK1 HK2 HK3 HK0 hft
                go_wp2_with fail
                go_roundg (n - (jj + 1))
                case measure => have := HKK.out; omega
                case rel => exact ⟨jj + 1, 0, P, a, HKK.out.1, Nat.le_refl _, rfl, rfl, rfl, by go_num, HD.out, HBA.out⟩
              · rw [if_neg h5] at hD
                have HD := hidT hD
                clear hD
                clear HK1 HK2 HK3 HK0 hft
                go_wp2_with fail
                go_roundg (n - (jj + 1))
                case measure => have := HKK.out; omega
                case rel => exact ⟨jj + 1, Q - t6, P, a, HKK.out.1, Nat.le_refl _, rfl, rfl, rfl, by go_num, HD.out, HBA.out⟩
            · have hb2 : (t1 == K) = false := by simp [h2]
              have HD := hidT (HK0.out (by omega) (by omega) (fun x => h2 x.2))
              clear HK1 HK2 HK3 HK0 hft
              go_wp2_with fail
              go_roundg (n - (jj + 1))
              case measure => have := HKK.out; omega
              case rel => exact ⟨jj + 1, Q, P, a, HKK.out.1, Nat.le_refl _, rfl, rfl, rfl, by go_num, HD.out, HBA.out⟩
          · have hb1 : (e1 == 1) = false := by simp [h1]
            have hb2 : (e1 == 2) = false := by simp [h4]
            have hb3 : (e1 == 3) = false := by simp [h3]
            have HD := hidT (HK0.out (fun x => h1 x.1) (fun x => h3 x.1) (fun x => h4 x.1))
            clear HK1 HK2 HK3 HK0 hft
            go_wp2_with fail
            go_roundg (n - (jj + 1))
            case measure => have := HKK.out; omega
            case rel => exact ⟨jj + 1, Q, P, a, HKK.out.1, Nat.le_refl _, rfl, rfl, rfl, by go_num, HD.out, HBA.out⟩
        · have hltz2 : ¬ (jj : Int) < (n : Int) := by omega
          have hT : zs.take jj = zs := List.take_of_length_le (by rw [HN.out]; omega)
          have hDK := HJ.out.1
          rw [hT, HII.out.2.2.1] at hDK
          have HBJ := hidT HJ.out.2
          have HOJ := hidT (OwnM.below HA.out.2.2.1 HBJ.out)
          have HBW : Hid (Below w.heap.size w wr) := HA.out.2.2.2.trans (HBJ.out.mono HA.out.2.2.2.size)
          have HM := hidT HA.out.2.1
          have hwk : wrap64 (K + 1) = K + 1 := by have := HII.out; unfold wrap64; omega
          clear hT hjj hg2 hlt2 HJ HA
          rcases hDK with ⟨z1, -, rfl, z4⟩ | ⟨rfl, z4⟩
          · have HY := hidT (rowsUp_yes z4)
            have HB3 : Hid (Below w.heap.size w (wr.alloc (.cells #[.int .i64 K, .int .i64 Q, .int .i64 P] 43))) := HBW.out.alloc HBW.out.size _
            have HO3 : Hid (OwnM (wr.alloc (.cells #[.int .i64 K, .int .i64 Q, .int .i64 P] 43)) w.heap.size 43 3 (.slice q' m c') m (flatX (rowsUp (heardF zs) i))) := by
              have := OwnM.below HOJ.out ((Below.refl _ _).alloc (Nat.le_refl _) (.cells #[.int .i64 K, .int .i64 Q, .int .i64 P] 43))
              rw [← HM.out] at this
              exact this
            have HNW : Hid (∀ j u, ([.int .i64 K, .int .i64 Q, .int .i64 P] : List Value)[j]? = some u → (wr.alloc (.cells #[.int .i64 K, .int .i64 Q, .int .i64 P] 43)).cell? ((⟨wr.heap.size, 0, none⟩ : Addr).add j) = some u) := by
              intro j u hu
              rw [Addr.add_lit, Nat.zero_add, World.cell?_alloc_at _ _ _ _ rfl]
              simpa using hu
            have HML : Hid (m ≤ 9999) := by
              show m ≤ 9999
              have h1 := rowsUp_len (heardF zs) i
              have h2 := HII.out
              rw [HM.out]
              omega
            clear z4 HOJ HBJ HBW
            go_wp2_with (at_builtin; (refine wpList_append_mid _ rfl _ _ 28 rfl w.heap.size 43 i0 zeroX 3 24 Tryd.underlying28 HI.out hz0 hz1 hz2 rfl (.slice q' m c') _ _ rfl HO3.out ⟨wr.heap.size, 0, none⟩ 1 1 [.int .i64 K, .int .i64 Q, .int .i64 P] rfl rfl HNW.out (fun u hu => by simp only [List.mem_cons, List.not_mem_nil, or_false] at hu; rcases hu with rfl | rfl | rfl <;> rfl) ?c3 ?c4 ?c5 ?_))
            case c3 => have := HML.out; unfold maxLen; omega
            case c4 => have := HML.out; omega
            case c5 => have := HB3.out.size; simpa using this
            intro v' w' hO' hgr hbk
            obtain ⟨q2, c2, hv'⟩ := OwnM.form hO'
            subst hv'
            have HNX : Hid (m + 1 = (rowsUp (heardF zs) (i + 1)).length ∧ Own3 w' w.heap.size (.slice q2 (m + 1) c2) (rowsUp (heardF zs) (i + 1)) ∧ Below w.heap.size w w') := by
              have e1 : m + 1 = (rowsUp (heardF zs) (i + 1)).length := by rw [HY.out, HM.out]; simp
              refine ⟨e1, ?_, HB3.out.grown hgr HB3.out.size (fun k hk => (OwnM.lt HO3.out k hk).1)⟩
              unfold Own3
              rw [← e1, HY.out, flatX_append, flatX_one, ← HII.out.2.2.1]
              exact hO'
            clear hO' hgr hbk HO3 HNW HB3 HY
            go_wp2_with fail
            go_roundg (9999 - (i + 1))
            case measure => have := HII.out; clear hwk; omega
            case rel => exact ⟨i + 1, m + 1, q2, c2, K + 1, HII.out.1, Nat.le_refl _, rfl, by first | rfl | exact congrArg (Value.int .i64) hwk, by have := HII.out.2.2.1; clear hwk; omega, HNX.out⟩
          · have HNX : Hid (m = (rowsUp (heardF zs) (i + 1)).length ∧ Own3 wr w.heap.size (.slice q' m c') (rowsUp (heardF zs) (i + 1)) ∧ Below w.heap.size w wr) := by
              rw [rowsUp_no z4]
              exact ⟨HM.out, HOJ.out, HBW.out⟩
            clear z4 HOJ HBJ HBW
            cases a
            all_goals
              go_wp2_with fail
              go_roundg (9999 - (i + 1))
              case measure => have := HII.out; clear hwk; omega
              case rel => exact ⟨i + 1, m, q', c', K + 1, HII.out.1, Nat.le_refl _, rfl, by first | rfl | exact congrArg (Value.int .i64) hwk, by have := HII.out.2.2.1; clear hwk; omega, HNX.out⟩
    · have hltz : ¬ K ≤ 9999 := by omega
      have hie : i = 9999 := by omega
      subst hie
      have HF := hidT HA.out.2
      clear hi hg hlt HA hKe
      go_wp2_with fail
      go_ret
      have hf := HF.out
      rw [rowsUp_all] at hf
      exact ⟨_, rfl, by have h1 := hf.1; have h2 := hf.2.1; rw [h1] at h2 ⊢; exact h2, hf.2.2⟩
end Go.Proofs.YtgpbpaimfhlnhaaDoor.tap
