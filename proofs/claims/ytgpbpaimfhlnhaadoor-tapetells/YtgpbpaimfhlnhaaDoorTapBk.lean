/- Contracts over this seat's translation: package tape's Book. -/
import Derived.Test.YtgpbpaimfhlnhaaDoorTapBok
namespace Go.Proofs.YtgpbpaimfhlnhaaDoor.tap
open Go.RowKit Go.Proofs.YtgpbpaimfhlnhaaDoor.mee Go.Proofs.YtgpbpaimfhlnhaaDoor.flr Go.Maps
open Go.Proofs.YtgpbpaimfhlnhaaDoor.spn (keeps rangeE errV errV_zero errV_of)
open Go.Proofs.YtgpbpaimfhlnhaaDoor.wak (OwnM own_of own_range)

def rowsE (zs : List Ev) : List X3 := if tchk zs = 0 then rowsOf (heardF zs) else []
set_option maxRecDepth 100000 in
set_option maxHeartbeats 4000000 in
theorem book_any (v : Value) (zs : List Ev) (w : World) (h : EL w v zs) :
    Calls Tryd.prog 13 #[v] w fun e w' => ∃ x, e = .returned (.tuple #[x, errV (tchk zs)]) ∧ Own3 w' w.heap.size x (rowsE zs) ∧ Below w.heap.size w w' := by
  have HCK := hidT (check_any v zs w h)
  by_cases hz : tchk zs = 0
  rotate_left
  · have e1 : rowsE zs = [] := if_neg hz
    rw [e1, errV_of hz]
    rw [errV_of hz] at HCK
    clear e1
    generalize tchk zs = k at *
    go_enter Tryd.func13, Tryd.ntmps13
    go_wp2_with fail
    refine HCK.out.mono ?_
    rintro e w1 ⟨rfl, hb⟩
    go_wp2_with fail
    go_ret2
    exact ⟨_, rfl, ⟨rfl, .inl ⟨rfl, rfl⟩⟩, hb⟩
  obtain ⟨h4, hev⟩ := tchk_zero hz
  have e1 : rowsE zs = rowsOf (heardF zs) := if_pos hz
  rw [e1, hz, errV_zero]
  rw [hz, errV_zero] at HCK
  have HEV := hidT hev
  have HFO := hidT (FOk.heard hev)
  obtain ⟨q, c, rfl, hnn⟩ := h.form
  have HEL := hidT h
  obtain ⟨n, hN⟩ : ∃ n, zs.length = n := ⟨_, rfl⟩
  have HN := hidT hN
  rw [hN] at h4
  have HN4 := hidT h4
  simp only [hN] at HCK ⊢
  rw [hN] at HEL
  have hmm := @run_makeMap Tryd.prog
  clear e1 hz hev h h4 hN hnn
  go_enter Tryd.func13, Tryd.ntmps13
  go_wp2_with fail
  refine HCK.out.mono ?_
  rintro e w1 ⟨rfl, hb⟩
  have HB1 := hidT (hb.alloc hb.size (.map #[] 0))
  have HM1 := hidT (HM.made w1)
  have HS1 := hidT hb.size
  clear hb HCK
  go_wp2_with fail
  obtain ⟨M, hM⟩ : ∃ M, w1.heap.size = M := ⟨_, rfl⟩
  rw [hM] at HM1 HS1
  simp only [hM]
  clear hM
  generalize w1.alloc (.map #[] 0) = V0 at *
  go_loopg [7, 16] n (fun gg _ s16 wr => ∃ kk : Nat, kk ≤ n ∧ n - kk ≤ gg ∧ s16 = .int .i64 kk ∧ Aside (Below w.heap.size w wr) ∧ Aside (HM wr M kk (heardF (zs.take kk))))
  case atStart => exact ⟨0, Nat.zero_le _, by omega, rfl, HB1.out, HM1.out⟩
  case round =>
    obtain ⟨kk, hkk, hg, rfl, BW, BM⟩ := hrel
    by_cases hlt : kk < n
    · have hltz : (kk : Int) < (n : Int) := by omega
      have hin1 : ¬ ((kk : Int) < 0) := by omega
      have hlz : kk < zs.length := by rw [HN.out]; exact hlt
      obtain ⟨g, off, rfl, hgl, hcc⟩ := HEL.out.at hlz
      have hee := HEV.out _ (show zs[kk]! ∈ zs by rw [getE _ _ hlz]; exact List.getElem_mem hlz)
      have HPT := hidT (heardF_take hlz)
      obtain ⟨x, hx⟩ : ∃ x, zs[kk]! = x := ⟨_, rfl⟩
      rw [hx] at hcc hee HPT
      have HHE := hidT (fun W (hW : HM W M kk (heardF (zs.take kk))) => hear_any M kk _ x W hW (HFO.out kk) (by have := HN4.out; omega) hee)
      rw [← HPT.out] at HHE
      obtain ⟨e1, e2, e3, e4, ⟨t1, t2, t3, t4, t5, t6⟩⟩ := x
      have c0 := keeps BW.out (hcc 0 _ rfl)
      have c1 := keeps BW.out (hcc 1 _ rfl)
      have c2 := keeps BW.out (hcc 2 _ rfl)
      have c3 := keeps BW.out (hcc 3 _ rfl)
      have c4 := keeps BW.out (hcc 4 _ rfl)
      have c5 := keeps BW.out (hcc 5 _ rfl)
      have c6 := keeps BW.out (hcc 6 _ rfl)
      have c7 := keeps BW.out (hcc 7 _ rfl)
      have c8 := keeps BW.out (hcc 8 _ rfl)
      have c9 := keeps BW.out (hcc 9 _ rfl)
      simp only [Nat.add_zero] at c0
      have HWK := hidT (wrapSuccT kk n hlt (by have := HN4.out; omega))
      have HKK : Hid (kk < n ∧ n - kk ≤ gk) := ⟨hlt, hg⟩
      have hca := HHE.out _ (BM.out.alloc (.cells #[.int .i64 e1, .int .i64 e2, .int .i64 e3, .int .i64 e4, .int .i64 t1, .int .i64 t2, .int .i64 t3, .int .i64 t4, .int .i64 t5, .int .i64 t6] 33))
      simp only [evL, tV, List.cons_append, List.nil_append] at hca
      have HCA := hidT hca
      have HBA := hidT (BW.out.alloc BW.out.size (.cells #[.int .i64 e1, .int .i64 e2, .int .i64 e3, .int .i64 e4, .int .i64 t1, .int .i64 t2, .int .i64 t3, .int .i64 t4, .int .i64 t5, .int .i64 t6] 33))
      have hgw : g < wr.heap.size := Nat.lt_of_lt_of_le hgl BW.out.size
      clear hcc hx hkk hg hlt hee hca HHE HPT
      go_wp2_with fail
      refine HCA.out.mono ?_
      rintro e W3 ⟨rfl, hm3, hg3⟩
      have HM3 := hidT hm3
      have HB3 := hidT (HBA.out.grown hg3 HBA.out.size (fun k hk => by cases hk; exact HS1.out))
      clear hm3 hg3 HCA HBA c0 c1 c2 c3 c4 c5 c6 c7 c8 c9
      go_wp2_with fail
      go_roundg (n - (kk + 1))
      case measure => have := HKK.out; omega
      case rel => exact ⟨kk + 1, HKK.out.1, Nat.le_refl _, congrArg (Value.int .i64) HWK.out, HB3.out, HM3.out⟩
    · have hltz : ¬ (kk : Int) < (n : Int) := by omega
      have hT : zs.take kk = zs := List.take_of_length_le (by rw [HN.out]; omega)
      have hbm := BM.out
      have hfo := HFO.out kk
      rw [hT] at hbm hfo
      have HBY := hidT (byId_any M kk _ wr hbm hfo (by have := HN4.out; omega))
      clear hT hbm hfo
      go_wp2_with fail
      refine HBY.out.mono ?_
      rintro e w' ⟨x, rfl, ho, hb⟩
      have HO := hidT (OwnM.mono ho BW.out.size)
      have HW := hidT (BW.out.trans (hb.mono BW.out.size))
      clear ho hb HBY
      go_wp2_with fail
      go_ret2
      exact ⟨_, rfl, HO.out, HW.out⟩
end Go.Proofs.YtgpbpaimfhlnhaaDoor.tap
