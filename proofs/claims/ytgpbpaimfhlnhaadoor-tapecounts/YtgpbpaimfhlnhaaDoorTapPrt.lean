/- Contracts over this seat's translation: package tape's numbers, Print. -/
import Derived.Test.YtgpbpaimfhlnhaaDoorTapTxt
namespace Go.Proofs.YtgpbpaimfhlnhaaDoor.tap
open Go.RowKit Go.Proofs.YtgpbpaimfhlnhaaDoor.mee Go.Proofs.YtgpbpaimfhlnhaaDoor.flr Go.Proofs.YtgpbpaimfhlnhaaDoor.bld
open Go.Proofs.YtgpbpaimfhlnhaaDoor.spn (keeps rangeE errV errV_zero errV_of)

/-- A row of numbers that was laid for the call. -/
def Nums (w w' : World) (v : Value) (zs : List Int) : Prop := ∃ b, v = .slice (some ⟨b, 0, none⟩) zs.length zs.length ∧ w'.heap[b]? = some (.cells (zs.map (Value.int .i64)).toArray 3 (0, 0)) ∧ w.heap.size ≤ b
set_option maxRecDepth 100000 in
theorem numbers_any (e : Ev) (w : World) :
    Calls Tryd.prog 22 #[.agg (evL e).toArray] w fun x w' => ∃ v, x = .returned v ∧ Nums w w' v (nums e) ∧ Below w.heap.size w w' := by
  obtain ⟨e1, e2, e3, e4, ⟨t1, t2, t3, t4, t5, t6⟩⟩ := e
  show Calls Tryd.prog 22 #[.agg #[.int .i64 e1, .int .i64 e2, .int .i64 e3, .int .i64 e4, .int .i64 t1, .int .i64 t2, .int .i64 t3, .int .i64 t4, .int .i64 t5, .int .i64 t6]] w _
  have hB : ∀ o, Below w.heap.size w ((w.alloc (.cells #[.int .i64 e1, .int .i64 e2, .int .i64 e3, .int .i64 e4, .int .i64 t1, .int .i64 t2, .int .i64 t3, .int .i64 t4, .int .i64 t5, .int .i64 t6] 33)).alloc o) := fun o => ((Below.refl _ _).alloc (Nat.le_refl _) _).alloc (by simp) o
  have hS : w.heap.size ≤ (w.alloc (.cells #[.int .i64 e1, .int .i64 e2, .int .i64 e3, .int .i64 e4, .int .i64 t1, .int .i64 t2, .int .i64 t3, .int .i64 t4, .int .i64 t5, .int .i64 t6] 33)).heap.size := by simp
  have hN : ∀ o, ((w.alloc (.cells #[.int .i64 e1, .int .i64 e2, .int .i64 e3, .int .i64 e4, .int .i64 t1, .int .i64 t2, .int .i64 t3, .int .i64 t4, .int .i64 t5, .int .i64 t6] 33)).alloc o).heap[w.heap.size + 1]? = some o := fun o => by
    have := heap_alloc_new (w.alloc (.cells #[.int .i64 e1, .int .i64 e2, .int .i64 e3, .int .i64 e4, .int .i64 t1, .int .i64 t2, .int .i64 t3, .int .i64 t4, .int .i64 t5, .int .i64 t6] 33)) o
    rw [World.size_alloc] at this
    exact this
  by_cases h1 : e1 = 1
  · subst h1
    have HB := hidT hB
    have HN := hidT hN
    have HS := hidT hS
    clear hB hN hS
    rw [show nums ⟨1, e2, e3, e4, ⟨t1, t2, t3, t4, t5, t6⟩⟩ = [e2, e3, e4] from rfl]
    go_enter Tryd.func22, Tryd.ntmps22
    go_wp2_with fail
    go_ret
    exact ⟨_, rfl, ⟨_, rfl, HN.out _, by simp⟩, HB.out _⟩
  by_cases h2 : e1 = 2
  · subst h2
    have HB := hidT hB
    have HN := hidT hN
    have HS := hidT hS
    clear hB hN hS h1
    rw [show nums ⟨2, e2, e3, e4, ⟨t1, t2, t3, t4, t5, t6⟩⟩ = [t1, t2, t6, t5] from rfl]
    go_enter Tryd.func22, Tryd.ntmps22
    go_wp2_with fail
    go_ret
    exact ⟨_, rfl, ⟨_, rfl, HN.out _, by simp⟩, HB.out _⟩
  by_cases h3 : e1 = 3
  · subst h3
    have HB := hidT hB
    have HN := hidT hN
    have HS := hidT hS
    clear hB hN hS h1 h2
    rw [show nums ⟨3, e2, e3, e4, ⟨t1, t2, t3, t4, t5, t6⟩⟩ = [e2, e3] from rfl]
    go_enter Tryd.func22, Tryd.ntmps22
    go_wp2_with fail
    go_ret
    exact ⟨_, rfl, ⟨_, rfl, HN.out _, by simp⟩, HB.out _⟩
  · have b1 : (e1 == 1) = false := by simp [h1]
    have b2 : (e1 == 2) = false := by simp [h2]
    have b3 : (e1 == 3) = false := by simp [h3]
    have en : nums ⟨e1, e2, e3, e4, ⟨t1, t2, t3, t4, t5, t6⟩⟩ = [e2] := by
      unfold nums
      simp only
      rw [if_neg h1, if_neg h2, if_neg h3]
    rw [en]
    have HB := hidT hB
    have HN := hidT hN
    have HS := hidT hS
    clear hB hN hS h1 h2 h3 en
    go_enter Tryd.func22, Tryd.ntmps22
    go_wp2_with fail
    go_ret
    exact ⟨_, rfl, ⟨_, rfl, HN.out _, by simp⟩, HB.out _⟩

def prtT (zs : List Ev) : List UInt8 := if tchk zs = 0 then pTxt zs else []
set_option maxRecDepth 100000 in
set_option maxHeartbeats 4000000 in
theorem print_any (v : Value) (zs : List Ev) (w : World) (h : EL w v zs) (hT : Tab w) (hW : Wds w) :
    Calls Tryd.prog 12 #[v] w fun e w' => e = .returned (.tuple #[.string ⟨(prtT zs).toArray⟩, errV (tchk zs)]) ∧ Below w.heap.size w w' := by
  have HCK := hidT (check_any v zs w h)
  by_cases hz : tchk zs = 0
  rotate_left
  · have e1 : prtT zs = [] := if_neg hz
    rw [e1, errV_of hz]
    rw [errV_of hz] at HCK
    clear e1
    generalize tchk zs = k at *
    go_enter Tryd.func12, Tryd.ntmps12
    go_wp2_with fail
    refine HCK.out.mono ?_
    rintro e w1 ⟨rfl, hb⟩
    go_wp2_with fail
    go_ret2
    exact ⟨rfl, hb⟩
  obtain ⟨h4, hev⟩ := tchk_zero hz
  have e1 : prtT zs = pTxt zs := if_pos hz
  rw [e1, hz, errV_zero]
  rw [hz, errV_zero] at HCK
  have HEV := hidT hev
  have HLEN : Hid (∀ kk, (pTxt (zs.take kk)).length ≤ 13200) := fun kk => by
    have h2 := pTxt_len (l := zs.take kk) (fun e he => hev e (List.mem_of_mem_take he))
    have h3 : (zs.take kk).length ≤ 400 := by rw [List.length_take]; omega
    omega
  obtain ⟨q, c, rfl, hnn⟩ := h.form
  have HEL := hidT h
  have HT := hidT hT
  have HWD := hidT hW
  obtain ⟨n, hN⟩ : ∃ n, zs.length = n := ⟨_, rfl⟩
  have HN := hidT hN
  rw [hN] at h4
  have HN4 := hidT h4
  simp only [hN] at HCK ⊢
  rw [hN] at HEL
  clear e1 hz hev h h4 hT hW hN hnn
  go_enter Tryd.func12, Tryd.ntmps12
  go_wp2_with fail
  refine HCK.out.mono ?_
  rintro e w1 ⟨rfl, hb⟩
  have HB1 := hidT hb
  clear hb HCK
  have hbn := bld_new w.heap.size w1 HB1.out.size
  have hba := HB1.out.alloc HB1.out.size (.cells #[.pointer none, .slice none 0 0] 58)
  have HBN := hidT hbn
  have HBA := hidT hba
  clear hbn hba
  go_wp2_with fail
  obtain ⟨X, hX⟩ : ∃ X, w1.heap.size = X := ⟨_, rfl⟩
  rw [hX] at HBN
  simp only [hX]
  clear hX HB1
  generalize w1.alloc (.cells #[.pointer none, .slice none 0 0] 58) = V0 at *
  go_loopg [7, 9, 17] n (fun gg _ _ s17 wr => ∃ kk : Nat, kk ≤ n ∧ n - kk ≤ gg ∧ s17 = .int .i64 kk ∧ Aside (Below w.heap.size w wr) ∧ Aside (Bld w.heap.size X (Lib.byteCells (pTxt (zs.take kk))) wr))
  case atStart => exact ⟨0, Nat.zero_le _, by omega, rfl, HBA.out, HBN.out⟩
  case round =>
    obtain ⟨kk, hkk, hg, rfl, BW, BD⟩ := hrel
    by_cases hlt : kk < n
    · have hltz : (kk : Int) < (n : Int) := by omega
      have hin1 : ¬ ((kk : Int) < 0) := by omega
      have hlz : kk < zs.length := by rw [HN.out]; exact hlt
      obtain ⟨g, off, rfl, hgl, hcc⟩ := HEL.out.at hlz
      have hee := HEV.out _ (show zs[kk]! ∈ zs by rw [getE _ _ hlz]; exact List.getElem_mem hlz)
      have HPT := hidT (pTxt_take hlz)
      obtain ⟨x, hx⟩ : ∃ x, zs[kk]! = x := ⟨_, rfl⟩
      rw [hx] at hcc hee HPT
      have hno := nums_ok hee
      have her := ev_range hee
      have HNA := hidT (fun W => numbers_any x W)
      have het : eTxt x = wordB x.what ++ nTxt (nums x) := rfl
      rw [het] at HPT
      clear het
      obtain ⟨e1, e2, e3, e4, ⟨t1, t2, t3, t4, t5, t6⟩⟩ := x
      simp only at her
      have c0 := keeps BW.out (hcc 0 _ rfl)
      have c1 := keeps BW.out (hcc 1 _ rfl)
      have c2 := keeps BW.out (hcc 2 _ rfl)
      have c3 := keeps BW.out (hcc 3 _ rfl)
      have c4 := keeps BW.out (hcc 4 _ rfl)
      have c5 := keeps BW.out (hcc 5 _ rfl)
      have c6 := keeps BW.out (hcc 6 _ rfl)
      have c7 := keeps BW.out (hcc 7 _ rfl)
      have c8 := keeps BW.out (hcc 8 _ rfl)
      have c9 := keeps BW.out (hcc 9 _ rfl)
      simp only [Nat.add_zero] at c0
      obtain ⟨k, hk⟩ : ∃ k : Nat, e1 = (k : Int) := ⟨e1.toNat, by omega⟩
      have hk1 : 1 ≤ k ∧ k ≤ 5 := by omega
      have HKR := hidT hk1
      have hix0 : ¬ (e1 < 0) := by omega
      have HWK := hidT (wrapSuccT kk n hlt (by have := HN4.out; omega))
      have HKK : Hid (kk < n ∧ n - kk ≤ gk) := ⟨hlt, hg⟩
      obtain ⟨NS, hNS⟩ : ∃ NS, nums ⟨e1, e2, e3, e4, ⟨t1, t2, t3, t4, t5, t6⟩⟩ = NS := ⟨_, rfl⟩
      rw [hNS] at hno HNA HPT
      have HNO := hidT hno
      subst hk
      simp only at HPT
      obtain ⟨WB, hWB⟩ : ∃ WB, wordB (k : Int) = WB := ⟨_, rfl⟩
      rw [hWB] at HPT
      have HWL : Hid (WB.length ≤ 8) := by rw [← hWB]; exact wordB_len _
      have hwc := HWD.out.cell k hk1.1 hk1.2
      rw [hWB] at hwc
      have g0 := (HWD.out.on BW.out (Nat.le_refl _)).cell k hk1.1 hk1.2
      rw [hWB] at g0
      have hgs : 0 < wr.heap.size := by
        have := World.block_lt_of_cell? _ _ g0
        exact this
      have hk6 : (k : Int) < 6 := by omega
      have hk0 : ¬ (k : Int) < 0 := by omega
      have HXW := hidT (bld_lt BD.out)
      have HBA2 : Hid (Below w.heap.size w (wr.alloc (.cells #[.int .i64 k, .int .i64 e2, .int .i64 e3, .int .i64 e4, .int .i64 t1, .int .i64 t2, .int .i64 t3, .int .i64 t4, .int .i64 t5, .int .i64 t6] 33))) := BW.out.alloc BW.out.size _
      have HBD2 : Hid (Bld w.heap.size X (Lib.byteCells (pTxt (zs.take kk))) (wr.alloc (.cells #[.int .i64 k, .int .i64 e2, .int .i64 e3, .int .i64 e4, .int .i64 t1, .int .i64 t2, .int .i64 t3, .int .i64 t4, .int .i64 t5, .int .i64 t6] 33))) := bld_below BD.out ((Below.refl _ _).alloc (Nat.le_refl _) _)
      have HEB : Hid ((wr.alloc (.cells #[.int .i64 k, .int .i64 e2, .int .i64 e3, .int .i64 e4, .int .i64 t1, .int .i64 t2, .int .i64 t3, .int .i64 t4, .int .i64 t5, .int .i64 t6] 33)).heap[wr.heap.size]? = some (.cells #[.int .i64 k, .int .i64 e2, .int .i64 e3, .int .i64 e4, .int .i64 t1, .int .i64 t2, .int .i64 t3, .int .i64 t4, .int .i64 t5, .int .i64 t6] 33 (0, 0))) := heap_alloc_new wr _
      have HP1 := hidT (HLEN.out kk)
      clear hcc hx hkk hg hlt hee her hno hNS hWB hk1 hwc hix0
      go_wp2_with fail
      refine (write_any w.heap.size X _ _ _ HBD2.out (by rw [cells_len, size_str]; have h2 := HP1.out; have h3 := HWL.out; omega) HBA2.out.size).mono ?_
      rintro e W3 ⟨rfl, hD3, hb3, hk3⟩
      have HX3 := hidT (hk3 wr.heap.size _ HEB.out (fun e => by have h2 := Option.some.inj e; have h3 := HXW.out; omega) (fun c fz e => by cases e))
      rw [cells_app] at hD3
      have HD3 := hidT hD3
      have HW3 := hidT (HBA2.out.trans hb3)
      obtain ⟨Y, hY⟩ : ∃ Y, wr.heap.size = Y := ⟨_, rfl⟩
      have hYX : X < Y := by rw [← hY]; exact HXW.out
      rw [hY] at HX3
      simp only [hY]
      have d0 : W3.cell? ⟨Y, 0, none⟩ = some (.int .i64 k) := by simp [World.cell?, HX3.out]
      have d1 : W3.cell? ⟨Y, 1, none⟩ = some (.int .i64 e2) := by simp [World.cell?, HX3.out]
      have d2 : W3.cell? ⟨Y, 2, none⟩ = some (.int .i64 e3) := by simp [World.cell?, HX3.out]
      have d3 : W3.cell? ⟨Y, 3, none⟩ = some (.int .i64 e4) := by simp [World.cell?, HX3.out]
      have d4 : W3.cell? ⟨Y, 4, none⟩ = some (.int .i64 t1) := by simp [World.cell?, HX3.out]
      have d5 : W3.cell? ⟨Y, 5, none⟩ = some (.int .i64 t2) := by simp [World.cell?, HX3.out]
      have d6 : W3.cell? ⟨Y, 6, none⟩ = some (.int .i64 t3) := by simp [World.cell?, HX3.out]
      have d7 : W3.cell? ⟨Y, 7, none⟩ = some (.int .i64 t4) := by simp [World.cell?, HX3.out]
      have d8 : W3.cell? ⟨Y, 8, none⟩ = some (.int .i64 t5) := by simp [World.cell?, HX3.out]
      have d9 : W3.cell? ⟨Y, 9, none⟩ = some (.int .i64 t6) := by simp [World.cell?, HX3.out]
      have hNA := HNA.out W3
      simp only [evL, tV, List.cons_append, List.nil_append] at hNA
      have HN3 := hidT hNA
      clear hD3 hb3 hk3 HX3 hY hYX c0 c1 c2 c3 c4 c5 c6 c7 c8 c9 g0 hgs hk6 hk0 HBA2 HBD2 HEB HXW BD HNA hNA
      go_wp2_with fail
      refine HN3.out.mono ?_
      rintro e W4 ⟨_, rfl, ⟨Z, rfl, hZ, hWZ⟩, hb4⟩
      have HZ := hidT hZ
      have HW4 := hidT (HW3.out.trans (hb4.mono HW3.out.size))
      have HD4 := hidT (bld_below HD3.out hb4)
      have HZX : Hid (X < Z) := Nat.lt_of_lt_of_le (bld_lt HD3.out) hWZ
      clear hZ hWZ hb4 HD3 HW3 HN3 d0 d1 d2 d3 d4 d5 d6 d7 d8 d9
      have HPRE : Hid ((pTxt (zs.take kk) ++ WB).length ≤ 13208) := by
        show _ ≤ _
        rw [List.length_append]
        have h2 := HP1.out
        have h3 := HWL.out
        omega
      go_wp2_with fail
      go_loopg [9, 29] NS.length (fun g2 _ s29 wi => ∃ jj : Nat, jj ≤ NS.length ∧ NS.length - jj ≤ g2 ∧ s29 = .int .i64 jj ∧ Aside (Below w.heap.size w wi) ∧ Aside (Bld w.heap.size X (Lib.byteCells (pTxt (zs.take kk) ++ WB ++ nTxt (NS.take jj))) wi) ∧ Aside (wi.heap[Z]? = some (.cells (NS.map (Value.int .i64)).toArray 3 (0, 0))))
      case atStart => exact ⟨0, Nat.zero_le _, by omega, rfl, HW4.out, (show Bld _ _ (Lib.byteCells (pTxt (zs.take kk) ++ WB ++ nTxt (NS.take 0))) W4 by have h := HD4.out; simpa [nTxt] using h), HZ.out⟩
      case round =>
        obtain ⟨jj, hjj, hg2, rfl, BI, BE, BZ⟩ := hrel
        by_cases hlt2 : jj < NS.length
        · have hltz2 : (jj : Int) < (NS.length : Int) := by omega
          have hin2 : ¬ ((jj : Int) < 0) := by omega
          obtain ⟨y, hy⟩ : ∃ y, NS[jj]! = y := ⟨_, rfl⟩
          have hyr := HNO.out.2 y (by rw [← hy, getE _ _ hlt2]; exact List.getElem_mem hlt2)
          have z0 : wr.cell? ⟨Z, jj, none⟩ = some (.int .i64 y) := by
            rw [Joins.cell_of_block BZ.out]
            simp only [List.getElem?_toArray, List.getElem?_map]
            rw [List.getElem?_eq_getElem hlt2, ← hy, getE _ _ hlt2]
            rfl
          have HNT : Hid (nTxt (NS.take (jj + 1)) = nTxt (NS.take jj) ++ ([32] ++ dec y)) := by rw [← hy]; exact nTxt_take hlt2
          obtain ⟨s, hs⟩ : ∃ s, dec y = s := ⟨_, rfl⟩
          have ls : s.length ≤ 5 := by rw [← hs]; exact dec_short hyr.1 hyr.2
          have HIT : Hid (Calls Tryd.prog 23 #[.int .i64 y] wr fun e w' => e = .returned (.string ⟨s.toArray⟩) ∧ Below wr.heap.size wr w') := by
            rw [← hs]
            exact itoa_any y _ (HT.out.on BI.out (Nat.le_refl _)) (by omega) (by omega)
          rw [hs] at HNT
          have gy : ¬ 9223372036854775807 < 1 + s.length := by omega
          have gy2 : ¬ 9223372036854775807 < s.length + 1 := by omega
          have HLS := hidT ls
          have HNL : Hid ((nTxt (NS.take jj)).length ≤ 24) := by
            show _ ≤ _
            have h2 := nTxt_len (l := NS.take jj) (fun n hn => HNO.out.2 n (List.mem_of_mem_take hn))
            have h3 : (NS.take jj).length ≤ 4 := by rw [List.length_take]; have := HNO.out.1; omega
            omega
          have HWJ := hidT (wrapSuccT jj NS.length hlt2 (by have := HNO.out.1; omega))
          have HJJ : Hid (jj < NS.length ∧ NS.length - jj ≤ gk) := ⟨hlt2, hg2⟩
          clear hy hyr hs ls hjj hg2 hlt2
          go_wp2_with fail
          refine HIT.out.mono ?_
          rintro e W5 ⟨rfl, hb5⟩
          have HW5 := hidT (BI.out.trans (hb5.mono BI.out.size))
          have HD5 := hidT (bld_below BE.out hb5)
          have HZ5 := hidT ((hb5.block Z (Array.getElem?_eq_some_iff.1 BZ.out).1).trans BZ.out)
          clear hb5 HIT z0
          go_wp2_with fail
          rw [txt_one]
          refine (write_any w.heap.size X _ _ W5 HD5.out (by rw [cells_len, size_str]; have h2 := HPRE.out; have h3 := HNL.out; have h4 := HLS.out; simp only [List.length_append, List.length_cons, List.length_nil] at h2 ⊢; omega) HW5.out.size).mono ?_
          rintro e W6 ⟨rfl, hD6, hb6, hk6⟩
          have HD6 : Hid (Bld w.heap.size X (Lib.byteCells (pTxt (zs.take kk) ++ WB ++ nTxt (NS.take (jj + 1)))) W6) := by
            have h := hD6
            rw [cells_app, List.append_assoc] at h
            rw [HNT.out]
            exact h
          have HW6 := hidT (HW5.out.trans hb6)
          have HZ6 := hidT (hk6 Z _ HZ5.out (fun e => by have h2 := Option.some.inj e; have h3 := HZX.out; omega) (fun c fz e => by cases e))
          clear hD6 hb6 hk6 HD5 HW5 HZ5
          go_wp2_with fail
          go_roundg (NS.length - (jj + 1))
          case measure => have := HJJ.out; omega
          case rel => exact ⟨jj + 1, HJJ.out.1, Nat.le_refl _, congrArg (Value.int .i64) HWJ.out, HW6.out, HD6.out, HZ6.out⟩
        · have hltz2 : ¬ (jj : Int) < (NS.length : Int) := by omega
          have HE7 : Hid (Bld w.heap.size X (Lib.byteCells (pTxt (zs.take kk) ++ WB ++ nTxt NS)) wr) := by
            have h := BE.out
            rw [List.take_of_length_le (l := NS) (by omega)] at h
            exact h
          have HNL : Hid ((nTxt NS).length ≤ 24) := by
            show _ ≤ _
            have h2 := nTxt_len HNO.out.2
            have h3 := HNO.out.1
            omega
          go_wp2_with fail
          refine (byte_any w.heap.size X _ 10 wr HE7.out (by rw [cells_len, List.length_append]; have h2 := HPRE.out; have h4 := HNL.out; omega) BI.out.size).mono ?_
          rintro e W8 ⟨rfl, hD8, hb8, -⟩
          have HD8 : Hid (Bld w.heap.size X (Lib.byteCells (pTxt (zs.take (kk + 1)))) W8) := by
            have h := hD8
            rw [cells_nl] at h
            show Bld _ _ _ _
            rw [HPT.out]
            simpa [List.append_assoc] using h
          have HW8 := hidT (BI.out.trans hb8)
          clear hD8 hb8
          go_wp2_with fail
          go_roundg (n - (kk + 1))
          case measure => have := HKK.out; omega
          case rel => exact ⟨kk + 1, HKK.out.1, Nat.le_refl _, congrArg (Value.int .i64) HWK.out, HW8.out, HD8.out⟩
    · have hltz : ¬ (kk : Int) < (n : Int) := by omega
      have HE : Hid (Bld w.heap.size X (Lib.byteCells (pTxt zs)) wr) := by
        have h := BD.out
        rw [List.take_of_length_le (by rw [HN.out]; omega)] at h
        exact h
      go_wp2_with fail
      refine (Tryd.Builder_String_any w.heap.size X (pTxt zs) wr HE.out BW.out.size).mono ?_
      rintro e w' ⟨rfl, hb⟩
      have HW := hidT (BW.out.trans hb)
      clear hb
      go_wp2_with fail
      go_ret2
      exact ⟨rfl, HW.out⟩
end Go.Proofs.YtgpbpaimfhlnhaaDoor.tap
