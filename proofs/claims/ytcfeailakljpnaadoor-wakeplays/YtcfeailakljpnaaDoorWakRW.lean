/- Contracts over this seat's translation: the document's Wake, at orders that are right. -/
import Derived.Test.YtcfeailakljpnaaDoorWWPure
import Derived.BigQuiet
namespace Go.Proofs.YtcfeailakljpnaaDoor.wak
open Go.RowKit Go.Proofs.YtcfeailakljpnaaDoor.ord
open Go.Proofs.YtcfeailakljpnaaDoor.spn (keeps bcell)

theorem belowR {B : Nat} {a w : World} (h : Below B a w) (n : Nat) : Below B a (w.drewN n) := ⟨h.os, h.tape, h.output, h.size, h.block⟩
theorem OwnQ.sl' {w : World} {base n : Nat} {q : Option Addr} {c : Nat} {zs : List O} (h : OwnQ w base (.slice q n c) zs) (_ : zs.length = n) : SL w (.slice q n c) zs := h.sl
theorem sl_kept {W W' : World} {v : Value} {zs : List O} {row : Option Nat} (h : SL W v zs) (hg : W.grownBy W' row) (h2 : v.ownBlock = none ∨ v.ownBlock ≠ row) : SL W' v zs := by
  rcases h with h | ⟨b, o, c, rfl, h3, h4, h5, h6⟩
  · exact .inl h
  · refine .inr ⟨b, o, c, rfl, h3, h4, Nat.lt_of_lt_of_le h5 hg.size, fun j hj i v hv => ?_⟩
    have hne : some b ≠ row := by
      rcases h2 with e | e
      · cases e
      · exact e
    rw [hg.cell_far ⟨b, o + j * 8 + i, none⟩ h5 hne]
    exact h6 j hj i v hv
theorem ah1 (a b : Int) (w : World) : Calls Tryd.prog 21 #[.int .i64 1, .int .i64 a, .int .i64 b] w fun e w' => e = .returned (.bool (decide (a < b))) ∧ w' = w := by
  by_cases h : a < b
  · rw [show decide (a < b) = true from decide_eq_true h]
    go_enter Tryd.func21, Tryd.ntmps21
    go_wp2
    go_ret
    exact ⟨rfl, rfl⟩
  · rw [show decide (a < b) = false from decide_eq_false h]
    go_enter Tryd.func21, Tryd.ntmps21
    go_wp2
    go_ret
    exact ⟨rfl, rfl⟩
theorem ah2 (a b : Int) (w : World) : Calls Tryd.prog 21 #[.int .i64 2, .int .i64 a, .int .i64 b] w fun e w' => e = .returned (.bool (decide (b < a))) ∧ w' = w := by
  by_cases h : b < a
  · rw [show decide (b < a) = true from decide_eq_true h]
    go_enter Tryd.func21, Tryd.ntmps21
    go_wp2
    go_ret
    exact ⟨rfl, rfl⟩
  · rw [show decide (b < a) = false from decide_eq_false h]
    go_enter Tryd.func21, Tryd.ntmps21
    go_wp2
    go_ret
    exact ⟨rfl, rfl⟩

/-- What the document's Wake answers. -/
def RWPost (x : Int) (q0 : Option Addr) (n0 c0 : Nat) (l0 : List O) (w : World) (e : Ending) (w' : World) : Prop :=
  ∃ q n c q6 m6 c6, e = .returned (.tuple #[.slice q6 m6 c6, .slice q n c]) ∧ m6 = (woke x l0).length ∧ n = (left x l0).length ∧ OwnQ w' w.heap.size (.slice q6 m6 c6) (woke x l0) ∧ ((Value.slice q n c = .slice q0 n0 c0 ∧ left x l0 = l0) ∨ OwnQ w' w.heap.size (.slice q n c) (left x l0)) ∧ Below w.heap.size w w'

set_option maxRecDepth 100000 in
set_option maxHeartbeats 8000000 in
theorem rwake_any (x : Int) (q0 : Option Addr) (n0 c0 : Nat) (l0 : List O) (w : World) (hn : n0 = l0.length) (h : SL w (.slice q0 n0 c0) l0) (hg : Good l0) :
    Calls Tryd.prog 12 #[.slice q0 n0 c0, .int .i64 x] w fun e w' => RWPost x q0 n0 c0 l0 w e w' := by
  have HSL0 := hidP h
  have HN0 := hidP hn
  have HG0 := hidP hg
  obtain ⟨i0, hi0, hz0, hz1, hz2⟩ := infoR'
  have HI := hidP hi0
  clear h hn hg hi0
  go_enter Tryd.func12, Tryd.ntmps12
  go_wp2_with fail
  go_loopg [0, 6, 7, 8, 9, 10] n0 (fun gg s0 s6 _ _ _ _ wr => ∃ (ls outL : List O) (q : Option Addr) (n c : Nat) (q6 : Option Addr) (m6 c6 : Nat), s0 = .slice q n c ∧ s6 = .slice q6 m6 c6 ∧ n ≤ gg ∧ Aside (n = ls.length ∧ m6 = outL.length ∧ SL wr (.slice q n c) ls ∧ Good ls ∧ OwnQ wr w.heap.size (.slice q6 m6 c6) outL ∧ woke x l0 = outL ++ woke x ls ∧ left x ls = left x l0 ∧ Below w.heap.size w wr ∧ ((Value.slice q n c = .slice q0 n0 c0 ∧ ls = l0) ∨ OwnQ wr w.heap.size (.slice q n c) ls) ∧ (∀ k, (Value.slice q n c).ownBlock = some k → (Value.slice q6 m6 c6).ownBlock ≠ some k)))
  case atStart => exact ⟨l0, [], q0, n0, c0, none, 0, 0, rfl, rfl, Nat.le_refl _, HN0.out, rfl, HSL0.out, HG0.out, ⟨rfl, .inl ⟨rfl, rfl⟩⟩, rfl, rfl, Below.refl _ _, .inl ⟨rfl, rfl⟩, fun k _ e => by cases e⟩
  case round =>
    obtain ⟨ls, outL, q, n, c, q6, m6, c6, rfl, rfl, hgk, HA⟩ := hrel
    have HN := hidP HA.out.1
    have HM6 := hidP HA.out.2.1
    have HSW := hidP HA.out.2.2.1
    have HG := hidP HA.out.2.2.2.1
    have HO6 := hidP HA.out.2.2.2.2.1
    have HWE := hidP HA.out.2.2.2.2.2.1
    have HLE := hidP HA.out.2.2.2.2.2.2.1
    have HBW := hidP HA.out.2.2.2.2.2.2.2.1
    have HSR := hidP HA.out.2.2.2.2.2.2.2.2.1
    have HAP := hidP HA.out.2.2.2.2.2.2.2.2.2
    have HN20 := hidP (show n ≤ 20 by rw [HN.out]; exact HG.out.2.2)
    have HM20 : Hid (m6 + n ≤ 20) := by
      show _ ≤ _
      have h1 := part_len x l0
      have h2 := HG0.out.2.2
      have h3 := part_len x ls
      rw [HWE.out, List.length_append, ← HLE.out, ← HM6.out] at h1
      rw [← HN.out] at h3
      omega
    clear HA
    obtain ⟨W0, hW0⟩ : ∃ W0, W0 = wr := ⟨_, rfl⟩
    rw [← hW0] at HSW HO6 HBW HSR
    rw [← hW0]
    clear hW0
    go_wp2_with fail
    go_loopg [7, 8, 9] n (fun g2 s7 s8 _ wi => ∃ (kk : Nat) (b : Int), kk ≤ n ∧ n - kk ≤ g2 ∧ s8 = .int .i64 kk ∧ s7 = .int .i64 b ∧ Aside (BP x ls kk b) ∧ Aside (Below W0.heap.size W0 wi))
    case atStart => exact ⟨0, -1, Nat.zero_le _, by omega, rfl, rfl, bp_zero _ _, Below.refl _ _⟩
    case round =>
      obtain ⟨kk, b, hkk, hg, rfl, rfl, HBP, BJ⟩ := hrel
      have HSL := hidP (HSW.out.below BJ.out)
      by_cases hlt : kk < n
      · have hltz : (kk : Int) < (n : Int) := by omega
        have hin1 : ¬ ((kk : Int) < 0) := by omega
        obtain ⟨g, off, rfl, cel⟩ := sl_at HSL.out HN.out hlt
        have hsd := chk_side (HG.out.1 _ (mem_at (l := ls) (show kk < ls.length by rw [← HN.out]; exact hlt)))
        obtain ⟨o, ho⟩ : ∃ o, ls[kk]! = o := ⟨_, rfl⟩
        have HOO := hidP ho
        rw [ho] at cel hsd
        clear ho
        obtain ⟨a1, a2, a3, a4, a5, a6, a7, a8⟩ := o
        simp only at hsd
        have t0 := cel 0 _ rfl
        have t1 := cel 1 _ rfl
        have t2 := cel 2 _ rfl
        have t3 := cel 3 _ rfl
        have t4 := cel 4 _ rfl
        have t5 := cel 5 _ rfl
        have t6 := cel 6 _ rfl
        have t7 := cel 7 _ rfl
        simp only [Nat.add_zero] at t0
        have HBA := hidP (BJ.out.alloc BJ.out.size (.cells #[.int .i64 a1, .int .i64 a2, .int .i64 a3, .int .i64 a4, .int .i64 a5, .int .i64 a6, .int .i64 a7, .int .i64 a8] 29))
        have HES := hidP (show wrap64 ((kk : Int) + 1) = ((kk + 1 : Nat) : Int) by have := HN20.out; unfold wrap64; omega)
        clear cel
        rcases hsd with hsd | hsd
        · subst hsd
          have HOO2 := hidP HOO.out
          by_cases hw : x < a8
          · have HW : Hid (wkB x ls[kk]! = false) := by
              show _ = _
              rw [HOO.out]
              unfold wkB
              rw [if_pos rfl]
              exact decide_eq_false (show ¬ a8 ≤ x by omega)
            have HBN := hidP (bp_skip HBP.out HW.out)
            have es := HES.out
            go_wp2_with fail
            go_roundg (n - (kk + 1))
            case measure => clear es; omega
            case rel => exact ⟨kk + 1, _, hlt, Nat.le_refl _, by go_num, rfl, HBN.out, HBA.out⟩
          · have HW : Hid (wkB x ls[kk]! = true) := by
              show _ = _
              rw [HOO.out]
              unfold wkB
              rw [if_pos rfl]
              exact decide_eq_true (show a8 ≤ x by omega)
            have hw' : ¬ x < a8 := hw
            rcases bp_form HBP.out with hb | ⟨nb, hb, hnb⟩
            · subst hb
              have hm1 : (-1 : Int) < 0 := by decide
              go_wp2_with fail
              go_quiet (fail)
              have HBN := hidP ((bp_first HBP.out HW.out))
              have HBQ := hidP (belowR HBA.out nq)
              have es := HES.out
              clear t0 t1 t2 t3 t4 t5 t6 t7
              go_wp2_with fail
              go_roundg (n - (kk + 1))
              case measure => clear es; omega
              case rel => exact ⟨kk + 1, _, hlt, Nat.le_refl _, by go_num, rfl, HBN.out, HBQ.out⟩

            · subst hb
              have hb0 : ¬ ((nb : Int) < 0) := by omega
              have hbn : (nb : Int) < (n : Int) := by have := HN.out; omega
              obtain ⟨g2, off2, he2, celb0⟩ := sl_at HSL.out HN.out (show nb < n by have := HN.out; omega)
              cases he2
              have celb : ∀ i v, (oL ls[nb]!)[i]? = some v → (wr.alloc (.cells #[.int .i64 a1, .int .i64 a2, .int .i64 1, .int .i64 a4, .int .i64 a5, .int .i64 a6, .int .i64 a7, .int .i64 a8] 29)).cell? ⟨g, off + nb * 8 + i, none⟩ = some v := fun i v hv => keeps ((Below.refl _ wr).alloc (Nat.le_refl _) _) (celb0 i v hv)
              obtain ⟨ob, hob⟩ : ∃ ob, ls[nb]! = ob := ⟨_, rfl⟩
              have HOB := hidP hob
              have hsb := chk_side (HG.out.1 _ (mem_at (l := ls) (show nb < ls.length by have := HN.out; omega)))
              rw [hob] at celb hsb
              clear hob celb0
              obtain ⟨b1, b2, b3, b4, b5, b6, b7, b8⟩ := ob
              simp only at hsb
              have y2 := celb 2 _ rfl
              have y7 := celb 7 _ rfl
              have HLT := hidP (show ltOf cf ls[kk]! ls[nb]! = ltOf cf ⟨a1, a2, 1, a4, a5, a6, a7, a8⟩ ⟨b1, b2, b3, b4, b5, b6, b7, b8⟩ by rw [HOO.out, HOB.out])
              clear celb
              have HAH : Hid (∀ W, Calls Tryd.prog 21 #[.int .i64 1, .int .i64 a8, .int .i64 b8] W fun e w' => e = .returned (.bool (decide (a8 < b8))) ∧ w' = W) := fun W => ah1 a8 b8 W
              have hR9 := heap_alloc_new wr (.cells #[.int .i64 a1, .int .i64 a2, .int .i64 1, .int .i64 a4, .int .i64 a5, .int .i64 a6, .int .i64 a7, .int .i64 a8] 29)
              clear HLT hnb
              have HLT := hidP (show ltOf cf ls[kk]! ls[nb]! = ltOf cf ⟨a1, a2, 1, a4, a5, a6, a7, a8⟩ ⟨b1, b2, b3, b4, b5, b6, b7, b8⟩ by rw [HOO.out, HOB.out])
              go_upto_region 8 with fail
              generalize wr.alloc (.cells #[.int .i64 a1, .int .i64 a2, .int .i64 1, .int .i64 a4, .int .i64 a5, .int .i64 a6, .int .i64 a7, .int .i64 a8] 29) = W9 at *
              obtain ⟨P9, hP9⟩ : ∃ P9, P9 = wr.heap.size := ⟨_, rfl⟩
              rw [← hP9] at hR9
              simp only [← hP9]
              clear hP9
              obtain ⟨-, -, z2, -, -, -, -, z7, -⟩ := row8 hR9
              clear t0 t1 t2 t3 t4 t5 t6 t7 hR9
              rcases hsb with hsb | hsb
              · subst hsb
                by_cases hlq : a8 < b8
                · have HL2 : Hid (ltOf cf ls[kk]! ls[nb]! = true) := by
                    show _ = _
                    rw [HLT.out, lt_iff]
                    exact .inr ⟨rfl, .inl ⟨rfl, hlq⟩⟩
                  rw [show decide (a8 < b8) = true from decide_eq_true hlq] at HAH
                  clear hlq
                  go_quiet ((go_at_call 21; exact Calls.quiet_of_same (HAH.out _)))
                  clear y2 y7 z2 z7
                  have HBN := hidP ((bp_less HBP.out HW.out HL2.out))
                  have HBQ := hidP (belowR HBA.out nq)
                  have es := HES.out
                  go_wp2_with fail
                  go_roundg (n - (kk + 1))
                  case measure => clear es; omega
                  case rel => exact ⟨kk + 1, _, hlt, Nat.le_refl _, by go_num, rfl, HBN.out, HBQ.out⟩

                · have HL2 : Hid (ltOf cf ls[kk]! ls[nb]! = false) := by
                    show _ = _
                    rw [HLT.out, lt_no]
                    simp only
                    omega
                  rw [show decide (a8 < b8) = false from decide_eq_false hlq] at HAH
                  clear hlq
                  go_quiet ((go_at_call 21; exact Calls.quiet_of_same (HAH.out _)))
                  clear y2 y7 z2 z7
                  have HBN := hidP ((bp_keep HBP.out HL2.out))
                  have HBQ := hidP (belowR HBA.out nq)
                  have es := HES.out
                  go_wp2_with fail
                  go_roundg (n - (kk + 1))
                  case measure => clear es; omega
                  case rel => exact ⟨kk + 1, _, hlt, Nat.le_refl _, by go_num, rfl, HBN.out, HBQ.out⟩

              · have HL2 : Hid (ltOf cf ls[kk]! ls[nb]! = true) := by
                  show _ = _
                  subst hsb
                  rw [HLT.out, lt_iff]
                  exact .inl (show (1 : Int) < 2 by decide)
                have hd1 : (1 : Int) < b3 := by omega
                have hd2 : ((1 : Int) == b3) = false := by simp; omega
                have hd3 : decide ((1 : Int) < b3) = true := decide_eq_true hd1
                clear HAH hsb HLT
                go_quiet (fail)
                clear y2 y7 z2 z7
                have HBN := hidP ((bp_less HBP.out HW.out HL2.out))
                have HBQ := hidP (belowR HBA.out nq)
                have es := HES.out
                go_wp2_with fail
                go_roundg (n - (kk + 1))
                case measure => clear es; omega
                case rel => exact ⟨kk + 1, _, hlt, Nat.le_refl _, by go_num, rfl, HBN.out, HBQ.out⟩

        · subst hsd
          have HOO2 := hidP HOO.out
          by_cases hw : a8 < x
          · have HW : Hid (wkB x ls[kk]! = false) := by
              show _ = _
              rw [HOO.out]
              unfold wkB
              rw [if_neg (show ¬ (2 : Int) = 1 by decide)]
              exact decide_eq_false (show ¬ x ≤ a8 by omega)
            have HBN := hidP (bp_skip HBP.out HW.out)
            have es := HES.out
            go_wp2_with fail
            go_roundg (n - (kk + 1))
            case measure => clear es; omega
            case rel => exact ⟨kk + 1, _, hlt, Nat.le_refl _, by go_num, rfl, HBN.out, HBA.out⟩
          · have HW : Hid (wkB x ls[kk]! = true) := by
              show _ = _
              rw [HOO.out]
              unfold wkB
              rw [if_neg (show ¬ (2 : Int) = 1 by decide)]
              exact decide_eq_true (show x ≤ a8 by omega)
            have hw' : ¬ a8 < x := hw
            rcases bp_form HBP.out with hb | ⟨nb, hb, hnb⟩
            · subst hb
              have hm1 : (-1 : Int) < 0 := by decide
              go_wp2_with fail
              go_quiet (fail)
              have HBN := hidP ((bp_first HBP.out HW.out))
              have HBQ := hidP (belowR HBA.out nq)
              have es := HES.out
              clear t0 t1 t2 t3 t4 t5 t6 t7
              go_wp2_with fail
              go_roundg (n - (kk + 1))
              case measure => clear es; omega
              case rel => exact ⟨kk + 1, _, hlt, Nat.le_refl _, by go_num, rfl, HBN.out, HBQ.out⟩

            · subst hb
              have hb0 : ¬ ((nb : Int) < 0) := by omega
              have hbn : (nb : Int) < (n : Int) := by have := HN.out; omega
              obtain ⟨g2, off2, he2, celb0⟩ := sl_at HSL.out HN.out (show nb < n by have := HN.out; omega)
              cases he2
              have celb : ∀ i v, (oL ls[nb]!)[i]? = some v → (wr.alloc (.cells #[.int .i64 a1, .int .i64 a2, .int .i64 2, .int .i64 a4, .int .i64 a5, .int .i64 a6, .int .i64 a7, .int .i64 a8] 29)).cell? ⟨g, off + nb * 8 + i, none⟩ = some v := fun i v hv => keeps ((Below.refl _ wr).alloc (Nat.le_refl _) _) (celb0 i v hv)
              obtain ⟨ob, hob⟩ : ∃ ob, ls[nb]! = ob := ⟨_, rfl⟩
              have HOB := hidP hob
              have hsb := chk_side (HG.out.1 _ (mem_at (l := ls) (show nb < ls.length by have := HN.out; omega)))
              rw [hob] at celb hsb
              clear hob celb0
              obtain ⟨b1, b2, b3, b4, b5, b6, b7, b8⟩ := ob
              simp only at hsb
              have y2 := celb 2 _ rfl
              have y7 := celb 7 _ rfl
              have HLT := hidP (show ltOf cf ls[kk]! ls[nb]! = ltOf cf ⟨a1, a2, 2, a4, a5, a6, a7, a8⟩ ⟨b1, b2, b3, b4, b5, b6, b7, b8⟩ by rw [HOO.out, HOB.out])
              clear celb
              have HAH : Hid (∀ W, Calls Tryd.prog 21 #[.int .i64 2, .int .i64 a8, .int .i64 b8] W fun e w' => e = .returned (.bool (decide (b8 < a8))) ∧ w' = W) := fun W => ah2 a8 b8 W
              have hR9 := heap_alloc_new wr (.cells #[.int .i64 a1, .int .i64 a2, .int .i64 2, .int .i64 a4, .int .i64 a5, .int .i64 a6, .int .i64 a7, .int .i64 a8] 29)
              clear HLT hnb
              have HLT := hidP (show ltOf cf ls[kk]! ls[nb]! = ltOf cf ⟨a1, a2, 2, a4, a5, a6, a7, a8⟩ ⟨b1, b2, b3, b4, b5, b6, b7, b8⟩ by rw [HOO.out, HOB.out])
              go_upto_region 8 with fail
              generalize wr.alloc (.cells #[.int .i64 a1, .int .i64 a2, .int .i64 2, .int .i64 a4, .int .i64 a5, .int .i64 a6, .int .i64 a7, .int .i64 a8] 29) = W9 at *
              obtain ⟨P9, hP9⟩ : ∃ P9, P9 = wr.heap.size := ⟨_, rfl⟩
              rw [← hP9] at hR9
              simp only [← hP9]
              clear hP9
              obtain ⟨-, -, z2, -, -, -, -, z7, -⟩ := row8 hR9
              clear t0 t1 t2 t3 t4 t5 t6 t7 hR9
              rcases hsb with hsb | hsb
              · have HL2 : Hid (ltOf cf ls[kk]! ls[nb]! = false) := by
                  show _ = _
                  subst hsb
                  rw [HLT.out, lt_no]
                  exact fun h => by rcases h with h | ⟨h, -⟩; exact absurd h (show ¬ (2 : Int) < 1 by decide); exact absurd h (show ¬ (2 : Int) = 1 by decide)
                have hd1 : ¬ (2 : Int) < b3 := by omega
                have hd2 : ((2 : Int) == b3) = false := by simp; omega
                have hd3 : decide ((2 : Int) < b3) = false := decide_eq_false hd1
                clear HAH hsb HLT
                go_quiet (fail)
                clear y2 y7 z2 z7
                have HBN := hidP ((bp_keep HBP.out HL2.out))
                have HBQ := hidP (belowR HBA.out nq)
                have es := HES.out
                go_wp2_with fail
                go_roundg (n - (kk + 1))
                case measure => clear es; omega
                case rel => exact ⟨kk + 1, _, hlt, Nat.le_refl _, by go_num, rfl, HBN.out, HBQ.out⟩

              · subst hsb
                by_cases hlq : b8 < a8
                · have HL2 : Hid (ltOf cf ls[kk]! ls[nb]! = true) := by
                    show _ = _
                    rw [HLT.out, lt_iff]
                    exact .inr ⟨rfl, .inr ⟨(show ¬ (2 : Int) = 1 by decide), hlq⟩⟩
                  rw [show decide (b8 < a8) = true from decide_eq_true hlq] at HAH
                  clear hlq
                  go_quiet ((go_at_call 21; exact Calls.quiet_of_same (HAH.out _)))
                  clear y2 y7 z2 z7
                  have HBN := hidP ((bp_less HBP.out HW.out HL2.out))
                  have HBQ := hidP (belowR HBA.out nq)
                  have es := HES.out
                  go_wp2_with fail
                  go_roundg (n - (kk + 1))
                  case measure => clear es; omega
                  case rel => exact ⟨kk + 1, _, hlt, Nat.le_refl _, by go_num, rfl, HBN.out, HBQ.out⟩

                · have HL2 : Hid (ltOf cf ls[kk]! ls[nb]! = false) := by
                    show _ = _
                    rw [HLT.out, lt_no]
                    simp only
                    omega
                  rw [show decide (b8 < a8) = false from decide_eq_false hlq] at HAH
                  clear hlq
                  go_quiet ((go_at_call 21; exact Calls.quiet_of_same (HAH.out _)))
                  clear y2 y7 z2 z7
                  have HBN := hidP ((bp_keep HBP.out HL2.out))
                  have HBQ := hidP (belowR HBA.out nq)
                  have es := HES.out
                  go_wp2_with fail
                  go_roundg (n - (kk + 1))
                  case measure => clear es; omega
                  case rel => exact ⟨kk + 1, _, hlt, Nat.le_refl _, by go_num, rfl, HBN.out, HBQ.out⟩


      · have hltz : ¬ (kk : Int) < (n : Int) := by omega
        have hke : kk = ls.length := by have := HN.out; omega
        have HBJ := hidP BJ.out
        have HB2 := hidP (HBW.out.trans (HBJ.out.mono HBW.out.size))
        have HBE : Hid (BP x ls ls.length b) := by show BP x ls ls.length b; rw [← hke]; exact HBP.out
        clear hkk hg hke HBP BJ hlt
        rcases bp_form HBE.out with hb | ⟨nb, hb, hnb⟩
        · subst hb
          have HNO := hidP (bp_none HBE.out)
          have HW1 : Hid (woke x l0 = outL) := by show _ = _; rw [HWE.out, HNO.out.1, List.append_nil]
          have HL1 : Hid (left x l0 = ls) := by show _ = _; rw [← HLE.out, HNO.out.2]
          have hm1 : (-1 : Int) < 0 := by decide
          go_wp2_with fail
          go_ret2
          refine ⟨q, n, c, q6, m6, c6, rfl, by rw [HW1.out]; exact HM6.out, by rw [HL1.out]; exact HN.out, by rw [HW1.out]; exact OwnM.below HO6.out HBJ.out, ?_, HB2.out⟩
          rw [HL1.out]
          rcases HSR.out with ⟨e1, e2⟩ | e1
          · exact .inl ⟨e1, e2⟩
          · exact .inr (OwnM.below e1 HBJ.out)
        · subst hb
          have hb0 : ¬ ((nb : Int) < 0) := by omega
          have hbn : (nb : Int) < (n : Int) := by have := HN.out; omega
          have hnn : nb < n := by have := HN.out; omega
          obtain ⟨g, off, rfl, cel⟩ := sl_at HSL.out HN.out hnn
          have HOF : Hid (∀ W, SL W (.slice (some ⟨g, off, none⟩) n c) ls → Calls Tryd.prog 9 #[.slice (some ⟨g, off, none⟩) n c, .int .i64 (nb : Int)] W fun e w' => ∃ v, e = .returned v ∧ OwnQ w' W.heap.size v (wo ls nb) ∧ Below W.heap.size W w') := fun W hW => off_any _ ls nb W hW hnb (by have := HN20.out; have := HN.out; omega)
          have HWS := hidP (woke_step HG.out HBE.out)
          have HLS := hidP (wo_left x hnb (bp_wk HBE.out))
          have HGS := hidP (wo_good nb HG.out)
          have HLL := hidP (wo_len hnb)
          obtain ⟨o, ho⟩ : ∃ o, ls[nb]! = o := ⟨_, rfl⟩
          rw [ho] at cel HWS
          clear ho
          obtain ⟨a1, a2, a3, a4, a5, a6, a7, a8⟩ := o
          have t0 := cel 0 _ rfl
          have t1 := cel 1 _ rfl
          have t2 := cel 2 _ rfl
          have t3 := cel 3 _ rfl
          have t4 := cel 4 _ rfl
          have t5 := cel 5 _ rfl
          have t6 := cel 6 _ rfl
          have t7 := cel 7 _ rfl
          simp only [Nat.add_zero] at t0
          clear cel
          have HON : Hid (OwnM wr w.heap.size 29 8 (.slice q6 m6 c6) m6 (flat outL)) := by
            have := OwnM.below HO6.out HBJ.out
            rw [← HM6.out] at this
            exact this
          have HMX := hidP (show m6 + 1 ≤ maxLen ∧ (m6 + 1) * 64 ≤ 140737488355328 by have := HM20.out; unfold maxLen; omega)
          have hR1 := heap_alloc_new wr (.cells #[.int .i64 a1, .int .i64 a2, .int .i64 a3, .int .i64 a4, .int .i64 a5, .int .i64 a6, .int .i64 a7, .int .i64 0] 29)
          have HB4 := hidP ((Below.refl _ wr).alloc (Nat.le_refl _) (.cells #[.int .i64 a1, .int .i64 a2, .int .i64 a3, .int .i64 a4, .int .i64 a5, .int .i64 a6, .int .i64 a7, .int .i64 0] 29))
          go_upto_region 14 with fail
          clear t0 t1 t2 t3 t4 t5 t6 t7
          generalize wr.alloc (.cells #[.int .i64 a1, .int .i64 a2, .int .i64 a3, .int .i64 a4, .int .i64 a5, .int .i64 a6, .int .i64 a7, .int .i64 0] 29) = W4 at *
          obtain ⟨P4, hP4⟩ : ∃ P4, P4 = wr.heap.size := ⟨_, rfl⟩
          rw [← hP4] at hR1
          simp only [← hP4]
          have hq4 : P4 < W4.heap.size := (Array.getElem?_eq_some_iff.1 hR1).1
          clear hP4
          obtain ⟨y0, y1, y2, y3, y4, y5, y6, y7, -⟩ := row8 hR1
          have HO4 := hidP (OwnM.below HON.out HB4.out)
          have HB4W := hidP (HB2.out.trans (HB4.out.mono HB2.out.size))
          go_wp2_with (at_builtin; (refine wpList_append_mid _ rfl _ _ 22 rfl w.heap.size 29 i0 zeroR 8 64 Tryd.underlying22 HI.out hz0 hz1 hz2 rfl (.slice q6 m6 c6) m6 (flat outL) rfl ?p0 ⟨W4.heap.size, 0, none⟩ 1 1 (oL ⟨a1, a2, a3, a4, a5, a6, a7, 0⟩) rfl rfl (World.news_of_block (cs := #[.int .i64 a1, .int .i64 a2, .int .i64 a3, .int .i64 a4, .int .i64 a5, .int .i64 a6, .int .i64 a7, .int .i64 0]) (heap_alloc_new _ _)) (by simp [Value.oneCell', oL]) ?p1 ?p2 ?p3 ?_))
          case p0 => exact OwnM.below HO4.out ((Below.refl _ W4).alloc (Nat.le_refl _) _)
          case p1 => exact HMX.out.1
          case p2 => exact HMX.out.2
          case p3 => have := HB4W.out.size; simp; omega
          intro v' w' hO' hgr hat
          have HB5 : Hid (Below w.heap.size w w') := (HB4W.out.alloc HB4W.out.size (.cells #[.int .i64 a1, .int .i64 a2, .int .i64 a3, .int .i64 a4, .int .i64 a5, .int .i64 a6, .int .i64 a7, .int .i64 0] 29)).grown hgr (by have := HB4W.out.size; simp; omega) (fun k hk => (OwnM.lt HON.out k hk).1)
          obtain ⟨q7, c7, rfl⟩ := OwnM.form hO'
          have HO5 : Hid (OwnQ w' w.heap.size (.slice q7 (m6 + 1) c7) (outL ++ [⟨a1, a2, a3, a4, a5, a6, a7, 0⟩])) := by
            show OwnM _ _ _ _ _ _ _
            rw [List.length_append, flat_append, ← HM6.out]
            exact hO'
          have HS5 := hidP (sl_kept ((HSL.out.below HB4.out).below ((Below.refl _ W4).alloc (Nat.le_refl _) _)) hgr (by
            cases hq : (Value.slice (some ⟨g, off, none⟩) n c).ownBlock with
            | none => exact .inl rfl
            | some k => exact .inr fun e => HAP.out k hq e.symm))
          clear hO' hgr hat y0 y1 y2 y3 y4 y5 y6 y7
          go_wp2_with fail
          refine (HOF.out _ HS5.out).mono ?_
          rintro e w6 ⟨v6, rfl, ho6, hb6⟩
          obtain ⟨q8, c8, hv8⟩ := OwnQ.form ho6
          subst hv8
          have HO8 := hidP ho6
          have HB6 := hidP (HB5.out.trans (hb6.mono HB5.out.size))
          have HO7 := hidP (OwnM.below HO5.out hb6)
          obtain ⟨n8, hn8⟩ : ∃ n8, (wo ls nb).length = n8 := ⟨_, rfl⟩
          rw [hn8] at HO8 HLL
          rw [hn8]
          have HN8 := hidP hn8
          have HNM := hidP (show n8 + 1 = n by rw [HN.out]; exact HLL.out)
          have HSZ := hidP (HB5.out.size)
          clear ho6 hb6 hn8
          go_wp2_with fail
          go_roundg (n - 1)
          case measure => omega
          case rel =>
            refine ⟨wo ls nb, outL ++ [⟨a1, a2, a3, a4, a5, a6, a7, 0⟩], q8, n8, c8, q7, m6 + 1, c7, rfl, rfl, by have := HNM.out; omega, HN8.out.symm, by rw [List.length_append, ← HM6.out]; rfl, OwnQ.sl' HO8.out HN8.out, HGS.out, HO7.out, ?_, ?_, HB6.out, .inr (OwnM.mono HO8.out HSZ.out), fun k hk e => ?_⟩
            · rw [HWE.out, HWS.out, List.append_assoc]; rfl
            · rw [HLS.out]; exact HLE.out
            · have h1 := (OwnM.lt HO8.out k hk).1
              have h2 := (OwnM.lt HO5.out k e).2
              omega
end Go.Proofs.YtcfeailakljpnaaDoor.wak
