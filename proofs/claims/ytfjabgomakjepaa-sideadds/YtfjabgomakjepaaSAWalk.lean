/- The walk of the law SideAdds. -/
import Derived.Test.YtfjabgomakjepaaSidDrop3
import Derived.Test.YtfjabgomakjepaaSidSame
namespace Go.Proofs.Ytfjabgomakjepaa.sid
open Go.RowKit Go.Proofs.Ytfjabgomakjepaa.spn Go.Proofs.Ytfjabgomakjepaa.que Go.Maps
open Go.Proofs.Ytfjabgomakjepaa.tickP (priceB sideB)

theorem add_zero {s : Int} {ls : List L} {p : Int} {r : R} (h : addE s ls p r = 0) : schk s ls = 0 ∧ priceB p = true ∧ rchk r = 0 ∧ r.id ∉ ids ls ∧ cnt ls ≠ 60 := by
  unfold addE at h
  by_cases h0 : schk s ls = 0
  · rw [if_pos h0] at h
    by_cases h1 : priceB p = true
    · rw [if_pos h1] at h
      by_cases h2 : rchk r = 0
      · rw [if_pos h2] at h
        by_cases h3 : r.id ∈ ids ls
        · rw [if_pos h3] at h; cases h
        · rw [if_neg h3] at h
          by_cases h4 : cnt ls = 60
          · rw [if_pos h4] at h; cases h
          · exact ⟨h0, h1, h2, h3, h4⟩
      · rw [if_neg h2] at h; exact absurd h h2
    · rw [if_neg h1] at h; cases h
  · rw [if_neg h0] at h; exact absurd h h0
/-- What an Add that went well gives. -/
theorem add_facts {s : Int} {ls : List L} {p : Int} {r : R} (h : addE s ls p r = 0) : schk s (putL s p r ls) = 0 ∧ ∃ i k : Nat, i < (putL s p r ls).length ∧ (putL s p r ls)[i]!.price = p ∧ k + 1 = (putL s p r ls)[i]!.rests.length ∧ (putL s p r ls)[i]!.rests[k]! = r ∧
    findE s (putL s p r ls) r.id = 0 ∧ findP s (putL s p r ls) r.id = ((i : Int), (k : Int)) ∧ dropL (putL s p r ls) i k = ls := by
  obtain ⟨h0, h1, h2, h3, h4⟩ := add_zero h
  obtain ⟨z1, z2, z3, z4⟩ := schk_zero h0
  have hs := schk_put h0 h1 h2 h3 (by omega)
  obtain ⟨y1, y2, y3, y4⟩ := schk_zero hs
  obtain ⟨i, k, hi, hk, e1, e2, e3, e4⟩ := drop_put (s := s) (p := p) (r := r) (ls := ls) (sgo_each z2)
  have hl := last_at y4 hi hk
  rw [e2] at hl
  have hf : findE s (putL s p r ls) r.id = 0 := by unfold findE; rw [if_pos hs, hl]; rfl
  refine ⟨hs, i, k, hi, by rw [getE _ _ hi]; exact e1, by rw [getE _ _ hi]; exact e3, by rw [getE _ _ hi, getE _ _ hk]; exact e2, hf, ?_, e4⟩
  unfold findP; rw [if_pos hf, hl]; rfl
theorem add_one : addE 1 [] 100 ⟨1, 1, 5, 0, 0⟩ = 0 := by decide
theorem add_oneL : addL 1 [] 100 ⟨1, 1, 5, 0, 0⟩ = [⟨100, [⟨1, 1, 5, 0, 0⟩]⟩] := by unfold addL; rw [add_one]; rfl

set_option maxRecDepth 100000 in
set_option maxHeartbeats 4000000 in
theorem walk (s : Int) (v : Value) (ls : List L) (p : Int) (a b c d e : Int) (w : World) (h : LS w v ls) :
    Calls Try.prog 3 #[.int .i64 s, v, .int .i64 p, .agg #[.int .i64 a, .int .i64 b, .int .i64 c, .int .i64 d, .int .i64 e]] w fun x w' => x = .returned (.bool true) ∧ Below w.heap.size w w' := by
  obtain ⟨V0, hV0⟩ : ∃ V0, V0 = w.alloc (.cells #[.int .i64 a, .int .i64 b, .int .i64 c, .int .i64 d, .int .i64 e] 24) := ⟨_, rfl⟩
  have hB0 : Below w.heap.size w V0 := by rw [hV0]; exact (Below.refl _ _).alloc (Nat.le_refl _) _
  have hR0 : V0.heap[w.heap.size]? = some (.cells #[.int .i64 a, .int .i64 b, .int .i64 c, .int .i64 d, .int .i64 e] 24 (0, 0)) := by rw [hV0]; exact heap_alloc_new w _
  obtain ⟨vq, vm, vc, rfl⟩ := ls_form h
  have HLS : Hid (∀ W, Below w.heap.size w W → LS W (.slice vq vm vc) ls) := fun W hW => h.below hW
  have HB0 : Hid (Below w.heap.size w V0) := hB0
  have hfact := add_any 1 (.slice none 0 0) [] 100 1 1 5 0 0 V0 (ls_nil _)
  have HFA : Hid (∀ x w', AddPost 1 [] 100 ⟨1, 1, 5, 0, 0⟩ V0 x w' → Below V0.heap.size V0 w' ∧ ∃ g o q c0 c1, x = .returned (.tuple #[.slice (some ⟨g, o, none⟩) 1 c0, .nilIface]) ∧ w'.cell? ⟨g, o, none⟩ = some (.int .i64 100) ∧ w'.cell? ⟨g, o + 1, none⟩ = some (.slice q 1 c1) ∧ g < w'.heap.size) := fun x w' hp => by
    obtain ⟨h1, v', h2, h3⟩ := hp
    rw [add_one, errV_zero] at h2
    rw [add_oneL] at h3
    rcases h3 with ⟨-, e⟩ | ⟨g, o, c0, e, -, -, hg, hl⟩
    · cases e
    · obtain ⟨q, c1, d0, d1, -⟩ := hl.at (k := 0) (by simp) (p := 100) (zs := [⟨1, 1, 5, 0, 0⟩]) rfl
      rw [e] at h2
      exact ⟨h1, g, o, q, c0, c1, h2, by simpa using d0, by simpa using d1, hg⟩
  have x0 : V0.cell? ⟨w.heap.size, 0, none⟩ = some (.int .i64 a) := by simp [World.cell?, hR0]
  have x1 : V0.cell? ⟨w.heap.size, 1, none⟩ = some (.int .i64 b) := by simp [World.cell?, hR0]
  have x2 : V0.cell? ⟨w.heap.size, 2, none⟩ = some (.int .i64 c) := by simp [World.cell?, hR0]
  have x3 : V0.cell? ⟨w.heap.size, 3, none⟩ = some (.int .i64 d) := by simp [World.cell?, hR0]
  have x4 : V0.cell? ⟨w.heap.size, 4, none⟩ = some (.int .i64 e) := by simp [World.cell?, hR0]
  have hsz0 : w.heap.size < V0.heap.size := (Array.getElem?_eq_some_iff.1 hR0).1
  have HAD := fun W hW => add_any s _ ls p a b c d e W (HLS.out W hW)
  clear h hB0 hR0
  by_cases h0 : addE s ls p ⟨a, b, c, d, e⟩ = 0
  · obtain ⟨hs, i, k, hi, e1, e2, e3, e4, e5, e6⟩ := add_facts h0
    obtain ⟨-, -, hrc, -, -⟩ := add_zero h0
    have hid := wf_id hrc
    obtain ⟨-, zz2, zz3, -⟩ := schk_zero hs
    have hlen := len_cnt (sgo_each zz2)
    have hkl : k ≤ 60 := by
      have := rests_le (show (putL s p ⟨a, b, c, d, e⟩ ls)[i]! ∈ putL s p ⟨a, b, c, d, e⟩ ls by rw [getE _ _ hi]; exact List.getElem_mem hi)
      omega
    have HAP : Hid (∀ W x w', AddPost s ls p ⟨a, b, c, d, e⟩ W x w' → Below W.heap.size W w' ∧ ∃ v', x = .returned (.tuple #[v', .nilIface]) ∧ LS w' v' (putL s p ⟨a, b, c, d, e⟩ ls)) := fun W x w' hp => by
      obtain ⟨h1, v', h2, h3⟩ := hp
      rw [h0, errV_zero] at h2
      unfold addL at h3
      rw [if_pos h0] at h3
      exact ⟨h1, v', h2, h3⟩
    have HDP : Hid (∀ W x w', DropPost s (putL s p ⟨a, b, c, d, e⟩ ls) a W x w' → Below W.heap.size W w' ∧ ∃ q m c', x = .returned (.tuple #[.slice q m c', .agg #[.int .i64 a, .int .i64 b, .int .i64 c, .int .i64 d, .int .i64 e], .int .i64 p, .nilIface]) ∧ LS w' (.slice q m c') ls) := fun W x w' hp => by
      obtain ⟨h1, v', h2, h3⟩ := hp
      have e4' : findE s (putL s p ⟨a, b, c, d, e⟩ ls) a = 0 := e4
      have e5' : findP s (putL s p ⟨a, b, c, d, e⟩ ls) a = ((i : Int), (k : Int)) := e5
      unfold dropRest dropPrice at h2
      unfold dropE at h3
      rw [if_pos e4', if_pos e4', e4', e5', errV_zero] at h2
      rw [if_pos e4', e5'] at h3
      simp only [Int.toNat_natCast] at h2 h3
      rw [e1, e3] at h2
      rw [e6] at h3
      obtain ⟨q, m, c', rfl⟩ := ls_form h3
      exact ⟨h1, q, m, c', h2, h3⟩
    have hfv : findV s (putL s p ⟨a, b, c, d, e⟩ ls) a = .tuple #[.int .i64 i, .int .i64 k, .nilIface] := by
      have e4' : findE s (putL s p ⟨a, b, c, d, e⟩ ls) a = 0 := e4
      have e5' : findP s (putL s p ⟨a, b, c, d, e⟩ ls) a = ((i : Int), (k : Int)) := e5
      unfold findV; rw [e5', e4', errV_zero]
    have HFI := fun W v' (hW : LS W v' (putL s p ⟨a, b, c, d, e⟩ ls)) => find_any s v' _ a W hW hid
    rw [hfv] at HFI
    have HDR := fun W v' (hW : LS W v' (putL s p ⟨a, b, c, d, e⟩ ls)) => drop_any s v' _ a W hW hid
    have HCH := fun W v' (hW : LS W v' (putL s p ⟨a, b, c, d, e⟩ ls)) => scheckS_any s v' _ W hW
    rw [hs, errV_zero] at HCH
    -- what lies there behind the Add
    have HX : Hid (∀ W v', LS W v' (putL s p ⟨a, b, c, d, e⟩ ls) → ∃ g o n cx rb ro rc, v' = .slice (some ⟨g, o, none⟩) n cx ∧ i < n ∧ n ≤ 61 ∧ g < W.heap.size ∧ rb < W.heap.size ∧ W.cell? ⟨g, o + i * 2, none⟩ = some (.int .i64 p) ∧ W.cell? ⟨g, o + i * 2 + 1, none⟩ = some (.slice (some ⟨rb, ro, none⟩) (k + 1) rc) ∧
        W.cell? ⟨rb, ro + k * 5, none⟩ = some (.int .i64 a) ∧ W.cell? ⟨rb, ro + k * 5 + 1, none⟩ = some (.int .i64 b) ∧ W.cell? ⟨rb, ro + k * 5 + 2, none⟩ = some (.int .i64 c) ∧ W.cell? ⟨rb, ro + k * 5 + 3, none⟩ = some (.int .i64 d) ∧ W.cell? ⟨rb, ro + k * 5 + 4, none⟩ = some (.int .i64 e)) := fun W v' hW => by
      rcases hW with ⟨-, hn⟩ | ⟨g, o, cx, rfl, h2, h3, h4, h5⟩
      · rw [hn] at hi; simp at hi
      · obtain ⟨x, hx⟩ : ∃ x, (putL s p ⟨a, b, c, d, e⟩ ls)[i]! = x := ⟨_, rfl⟩
        obtain ⟨xp, zs⟩ := x
        have e1' := e1
        have e2' := e2
        have e3' := e3
        rw [hx] at e1' e2' e3'
        simp only [] at e1' e2' e3'
        rw [e1'] at hx
        obtain ⟨q, rc, l0, l1, hsl⟩ := h5.at hi hx
        have hkz : k < zs.length := by omega
        obtain ⟨rb, ro, hq, -, hrb, hlr⟩ := sl_some hsl hkz
        subst hq
        obtain ⟨v0, v1, v2, v3, v4⟩ := lies_at hlr hkz e3'
        rw [← e2'] at l1
        exact ⟨g, o, _, cx, rb, ro, rc, rfl, hi, by omega, h4, hrb, l0, l1, v0, v1, v2, v3, v4⟩
    generalize putL s p ⟨a, b, c, d, e⟩ ls = X at *
    have HSAME : Hid (∀ W va, LS W va ls → Below w.heap.size w W → Calls Try.prog 8 #[va, .slice vq vm vc] W fun e w' => e = .returned (.bool true) ∧ Below W.heap.size W w') := fun W va ha hW => levels_same va _ ls W ha (HLS.out W hW)
    clear h0 hs hi e1 e2 e3 e4 e5 e6 hrc hid zz2 zz3 hlen hfv
    have i0 : (0 : Int) ≤ (i : Int) := by omega
    have k0 : (0 : Int) ≤ (k : Int) := by omega
    have HK : Hid (wrap64 (((k + 1 : Nat) : Int) - 1) = (k : Int) ∧ IntKind.i64.wrap (((k + 1 : Nat) : Int) - 1) = (k : Int)) := by
      have h1 : wrap64 (((k + 1 : Nat) : Int) - 1) = (k : Int) := by unfold wrap64; omega
      exact ⟨h1, (IntWalk.i64_left _).trans h1⟩
    go_enter Try.func3, Try.ntmps3
    go_wp2_with fail
    rw [← hV0]
    refine hfact.mono ?_
    rintro x w1 hp
    obtain ⟨h1, g1, o1, q1, c0, c1, rfl, d0, d1, hg⟩ := HFA.out _ _ hp
    have HB1 : Hid (Below w.heap.size w w1) := HB0.out.trans (h1.mono HB0.out.size)
    have y0 := keeps h1 x0
    have y1 := keeps h1 x1
    have y2 := keeps h1 x2
    have y3 := keeps h1 x3
    have y4 := keeps h1 x4
    have hs1 : w.heap.size < w1.heap.size := Nat.lt_of_lt_of_le hsz0 h1.size
    clear hfact HFA hp h1 x0 x1 x2 x3 x4
    go_wp2_with fail
    refine (HAD w1 HB1.out).mono ?_
    rintro x w2 hp
    obtain ⟨h2, v2, rfl, hLX⟩ := HAP.out _ _ _ hp
    have HB2 : Hid (Below w.heap.size w w2) := HB1.out.trans (h2.mono HB1.out.size)
    have HLX : Hid (LS w2 v2 X) := hLX
    obtain ⟨g, o, n, cx, rb, ro, rc, rfl, hin, hn61, hgs, hrs, l0, l1, r0, r1, r2, r3, r4⟩ := HX.out _ _ hLX
    have u0 := keeps h2 y0
    have u1 := keeps h2 y1
    have u2 := keeps h2 y2
    have u3 := keeps h2 y3
    have u4 := keeps h2 y4
    have hs2 : w.heap.size < w2.heap.size := Nat.lt_of_lt_of_le hs1 h2.size
    clear HAP hp h2 HAD y0 y1 y2 y3 y4 d0 d1 hLX HX
    go_wp2_with fail
    refine (HFI w2 _ HLX.out).mono ?_
    rintro x w3 ⟨rfl, h3⟩
    have H3 : Hid (Below w2.heap.size w2 w3) := h3
    have t0 := keeps h3 u0
    have hs3 : w.heap.size < w3.heap.size := Nat.lt_of_lt_of_le hs2 h3.size
    clear h3 HFI
    go_wp2_with fail
    refine (HDR w3 _ (HLX.out.below H3.out)).mono ?_
    rintro x w4 hp
    obtain ⟨h4, q4, m4, c4, rfl, hL4⟩ := HDP.out _ _ _ hp
    have H4 : Hid (Below w2.heap.size w2 w4) := H3.out.trans (h4.mono H3.out.size)
    have HL4 : Hid (LS w4 (.slice q4 m4 c4) ls) := hL4
    clear hp h4 hL4 HDR HDP t0
    go_wp2_with fail
    have hR4 := heap_alloc_new w4 (.cells #[.int .i64 a, .int .i64 b, .int .i64 c, .int .i64 d, .int .i64 e] 24)
    have hA4 : Below w4.heap.size w4 (w4.alloc (.cells #[.int .i64 a, .int .i64 b, .int .i64 c, .int .i64 d, .int .i64 e] 24)) := (Below.refl _ _).alloc (Nat.le_refl _) _
    generalize w4.alloc (.cells #[.int .i64 a, .int .i64 b, .int .i64 c, .int .i64 d, .int .i64 e] 24) = V4 at *
    have HV4 : Hid (Below w2.heap.size w2 V4) := H4.out.trans (hA4.mono H4.out.size)
    have HWV : Hid (Below w.heap.size w V4) := HB2.out.trans (HV4.out.mono HB2.out.size)
    obtain ⟨z0, z1, z2, z3, z4, -⟩ := rowFive hR4
    have hz4 : w4.heap.size < V4.heap.size := (Array.getElem?_eq_some_iff.1 hR4).1
    have HLV : Hid (LS V4 (.slice q4 m4 c4) ls) := HL4.out.below hA4
    clear hA4 hR4
    generalize w4.heap.size = B4 at *
    refine (HSAME.out V4 _ HLV.out HWV.out).mono ?_
    rintro x w5 ⟨rfl, h5⟩
    have H5 : Hid (Below w2.heap.size w2 w5) := HV4.out.trans (h5.mono HV4.out.size)
    have hs5 : w.heap.size < w5.heap.size := Nat.lt_of_lt_of_le hs2 H5.out.size
    have hb5 : B4 < w5.heap.size := Nat.lt_of_lt_of_le hz4 h5.size
    have m0 := keeps H5.out u0
    have m1 := keeps H5.out u1
    have m2 := keeps H5.out u2
    have m3 := keeps H5.out u3
    have m4' := keeps H5.out u4
    have n0 := keeps h5 z0
    have n1 := keeps h5 z1
    have n2 := keeps h5 z2
    have n3 := keeps h5 z3
    have n4 := keeps h5 z4
    clear h5 z0 z1 z2 z3 z4 HSAME HLV
    go_wp2_with fail
    refine (HCH w5 _ (HLX.out.below H5.out)).mono ?_
    rintro x w6 ⟨rfl, h6⟩
    have H6 : Hid (Below w2.heap.size w2 w6) := H5.out.trans (h6.mono H5.out.size)
    have HW6 : Hid (Below w.heap.size w w6) := HB2.out.trans (H6.out.mono HB2.out.size)
    have hs6 : w.heap.size < w6.heap.size := Nat.lt_of_lt_of_le hs2 H6.out.size
    have hg6 : g < w6.heap.size := Nat.lt_of_lt_of_le hgs H6.out.size
    have hr6 : rb < w6.heap.size := Nat.lt_of_lt_of_le hrs H6.out.size
    have m0 := keeps H6.out u0
    have m1 := keeps H6.out u1
    have m2 := keeps H6.out u2
    have m3 := keeps H6.out u3
    have m4' := keeps H6.out u4
    have p0 := keeps H6.out r0
    have p1 := keeps H6.out r1
    have p2 := keeps H6.out r2
    have p3 := keeps H6.out r3
    have p4 := keeps H6.out r4
    have j0 := keeps H6.out l0
    have j1 := keeps H6.out l1
    clear h6 HCH n0 n1 n2 n3 n4 u0 u1 u2 u3 u4 r0 r1 r2 r3 r4 l0 l1
    have i1 : (i : Int) < (n : Int) := by omega
    have i2 : ¬ ((i : Int) < 0) := by omega
    have k2 : ¬ ((k : Int) < 0) := by omega
    have k1 : (k : Int) < (k : Int) + 1 := by omega
    have k3 : (k : Int) < ((k + 1 : Nat) : Int) := by omega
    have d1 : decide ((0 : Int) ≤ (i : Int)) = true := by simp
    have d2 : decide (i < n) = true := by simp; omega
    have d3 : decide ((i : Int) < (n : Int)) = true := by simp; omega
    have d4 : decide ((0 : Int) ≤ (k : Int)) = true := by simp
    obtain ⟨e1, e2⟩ := HK.out
    go_upto_region 12 with fail
    go_quiet (fail)
    go_wp2_with fail
    go_ret
    exact ⟨rfl, belowN HW6.out _⟩
  · have HAP : Hid (∀ W x w', AddPost s ls p ⟨a, b, c, d, e⟩ W x w' → Below W.heap.size W w' ∧ ∃ v', x = .returned (.tuple #[v', .iface 60 (.int .i64 (addE s ls p ⟨a, b, c, d, e⟩))])) := fun W x w' hp => by
      obtain ⟨h1, v', h2, -⟩ := hp
      rw [errV_of h0] at h2
      exact ⟨h1, v', h2⟩
    generalize addE s ls p ⟨a, b, c, d, e⟩ = k at HAP
    clear h0
    go_enter Try.func3, Try.ntmps3
    go_wp2_with fail
    rw [← hV0]
    refine hfact.mono ?_
    rintro x w1 hp
    obtain ⟨h1, g, o, q, c0, c1, rfl, d0, d1, hg⟩ := HFA.out _ _ hp
    have HB1 : Hid (Below w.heap.size w w1) := HB0.out.trans (h1.mono HB0.out.size)
    have y0 := keeps h1 x0
    have y1 := keeps h1 x1
    have y2 := keeps h1 x2
    have y3 := keeps h1 x3
    have y4 := keeps h1 x4
    have hs1 : w.heap.size < w1.heap.size := Nat.lt_of_lt_of_le hsz0 h1.size
    clear hfact HFA hp h1 x0 x1 x2 x3 x4
    go_wp2_with fail
    refine (HAD w1 HB1.out).mono ?_
    rintro x w2 hp
    obtain ⟨h2, v', rfl⟩ := HAP.out _ _ _ hp
    have HB2 : Hid (Below w.heap.size w w2) := HB1.out.trans (h2.mono HB1.out.size)
    clear HAP hp h2 HAD y0 y1 y2 y3 y4 d0 d1
    go_wp2_with fail
    go_ret
    exact ⟨rfl, HB2.out⟩
end Go.Proofs.Ytfjabgomakjepaa.sid
