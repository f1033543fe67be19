/- An id is where the document finds it. Contracts over this seat's translation: the document's Add and Out, at a side that is right. -/
import Derived.Test.YtmgodofnhjmbfaaGreatDoorSidRef5
import Derived.Test.YtmgodofnhjmbfaaGreatDoorSidRef8
import Derived.Test.YtmgodofnhjmbfaaGreatDoorSidAdd
namespace Go.Proofs.YtmgodofnhjmbfaaGreatDoor.sid
open Go.RowKit Go.Proofs.YtmgodofnhjmbfaaGreatDoor.spn Go.Proofs.YtmgodofnhjmbfaaGreatDoor.que

theorem idx_mem (id : Int) (zs : List R) : 0 ≤ idx id zs ↔ id ∈ zs.map (·.id) := by
  have h := has_idx id zs
  constructor
  · intro h1
    rw [decide_eq_true h1] at h
    cases hm : has id zs with
    | false => rw [hm] at h; cases h
    | true => exact Classical.byContradiction fun hn => by rw [(has_false id zs).2 hn] at hm; cases hm
  · intro h1
    exact Classical.byContradiction fun hn => by
      rw [decide_eq_false hn] at h
      exact (has_false id zs).1 h h1
theorem atGo_mem (id : Int) (ls : List L) : ∀ i : Int, 0 ≤ i → (0 ≤ (atGo id i ls).1 ↔ id ∈ (allR ls).map (·.id)) := by
  induction ls with
  | nil => intro i hi; simp [atGo, allR]
  | cons l t ih =>
    intro i hi
    rw [allR_cons, List.map_append, List.mem_append, ← idx_mem]
    unfold atGo
    by_cases h : 0 ≤ idx id l.rests
    · rw [if_pos h]; simp [h, hi]
    · rw [if_neg h, ih (i + 1) (by omega)]; simp [h]
end Go.Proofs.YtmgodofnhjmbfaaGreatDoor.sid
namespace Go.Proofs.YtmgodofnhjmbfaaGreatDoor.sid
open Go.RowKit Go.Proofs.YtmgodofnhjmbfaaGreatDoor.spn Go.Proofs.YtmgodofnhjmbfaaGreatDoor.que
open Go.Proofs.YtmgodofnhjmbfaaGreatDoor.tickP (priceB sideB betOk betR)

/-- What is wrong with one more at a side that is right, as the document goes. -/
def raddE (ls : List L) (p : Int) (r : R) : Int := if priceB p = true then (if rchk r = 0 then (if 0 ≤ (atGo r.id 0 ls).1 then 7 else if 60 ≤ cnt ls then 4 else 0) else rchk r) else 1
theorem raddE_is {s : Int} {ls : List L} {p : Int} {r : R} (h0 : schk s ls = 0) : raddE ls p r = addE s ls p r := by
  have hc := (schk_zero h0).2.2.1
  unfold raddE addE
  rw [if_pos h0]
  by_cases hp : priceB p = true
  · rw [if_pos hp, if_pos hp]
    by_cases hr : rchk r = 0
    · rw [if_pos hr, if_pos hr]
      have hm := atGo_mem r.id ls 0 (Int.le_refl _)
      rw [← ids_allR] at hm
      by_cases h1 : 0 ≤ (atGo r.id 0 ls).1
      · rw [if_pos h1, if_pos (hm.1 h1)]
      · rw [if_neg h1, if_neg (fun h => h1 (hm.2 h))]
        by_cases h2 : 60 ≤ cnt ls
        · rw [if_pos h2, if_pos (by omega)]
        · rw [if_neg h2, if_neg (by omega)]
    · rw [if_neg hr, if_neg hr]
  · rw [if_neg hp, if_neg hp]

def RaddPost (s : Int) (ls : List L) (p : Int) (r : R) (w : World) (x : Ending) (w' : World) : Prop :=
  ∃ v', x = .returned (.tuple #[v', .int .i64 (addE s ls p r)]) ∧ LS w' v' (addL s ls p r) ∧ Below w.heap.size w w'
theorem radd_bad {s : Int} {ls : List L} {p : Int} {r : R} {w W : World} {k : Int} (h : addE s ls p r = k) (hk : ¬ k = 0) (hW : Below w.heap.size w W) : RaddPost s ls p r w (.returned (.tuple #[.slice none 0 0, .int .i64 k])) W :=
  ⟨_, by rw [h], by rw [addL_bad h hk]; exact ls_nil _, hW⟩

set_option maxRecDepth 100000 in
set_option maxHeartbeats 2000000 in
theorem radd_good (s p r1 r2 r3 r4 r5 : Int) (vq : Option Addr) (vn vc : Nat) (ls : List L) (w : World) (h : LS w (.slice vq vn vc) ls) (h0 : schk s ls = 0) :
    Calls Tryz.prog 32 #[.int .i64 s, .slice vq vn vc, .int .i64 p, .agg #[.int .i64 r1, .int .i64 r2, .int .i64 r3, .int .i64 r4, .int .i64 r5]] w fun x w' => RaddPost s ls p ⟨r1, r2, r3, r4, r5⟩ w x w' := by
  obtain ⟨z1, z2, z3, -⟩ := schk_zero h0
  have hE := sgo_each z2
  have hlen := len_cnt hE
  have HR60 : Hid ((∀ l ∈ ls, l.rests.length ≤ 60) ∧ ls.length ≤ 10000) := ⟨fun l hl => by have := rests_le hl; omega, by omega⟩
  have HLS : Hid (∀ W, Below w.heap.size w W → LS W (.slice vq vn vc) ls) := fun W hW => h.below hW
  have H0 : Hid (schk s ls = 0) := h0
  have HBD : Hid (∀ k W, addE s ls p ⟨r1, r2, r3, r4, r5⟩ = k → ¬ k = 0 → Below w.heap.size w W → RaddPost s ls p ⟨r1, r2, r3, r4, r5⟩ w (.returned (.tuple #[.slice none 0 0, .int .i64 k])) W) := fun k W a b c => radd_bad a b c
  have HAE : Hid (raddE ls p ⟨r1, r2, r3, r4, r5⟩ = addE s ls p ⟨r1, r2, r3, r4, r5⟩) := raddE_is h0
  have HOK : Hid (∀ v' W, addE s ls p ⟨r1, r2, r3, r4, r5⟩ = 0 → LS W v' (putL s p ⟨r1, r2, r3, r4, r5⟩ ls) → Below w.heap.size w W → RaddPost s ls p ⟨r1, r2, r3, r4, r5⟩ w (.returned (.tuple #[v', .int .i64 0])) W) := fun v' W a b c => ⟨v', by rw [a], by unfold addL; rw [if_pos a]; exact b, c⟩
  generalize hPO : RaddPost s ls p ⟨r1, r2, r3, r4, r5⟩ w = PO at *
  clear z1 z2 z3 hE hlen h h0 hPO
  obtain ⟨V, hV⟩ : ∃ V, V = w.alloc (.cells #[.int .i64 r1, .int .i64 r2, .int .i64 r3, .int .i64 r4, .int .i64 r5] 26) := ⟨_, rfl⟩
  have HBV : Hid (Below w.heap.size w V) := by rw [hV]; exact (Below.refl _ _).alloc (Nat.le_refl _) _
  have HRV : Hid (V.heap[w.heap.size]? = some (.cells #[.int .i64 r1, .int .i64 r2, .int .i64 r3, .int .i64 r4, .int .i64 r5] 26 (0, 0))) := by rw [hV]; exact heap_alloc_new w _
  obtain ⟨y0, y1, y2, y3, y4, -⟩ := rowFive HRV.out
  go_enter Tryz.func32, Tryz.ntmps32
  go_wp2_with fail
  rw [← hV]
  clear hV
  refine (rprice_any p _).mono ?_
  rintro e V ⟨rfl, rfl⟩
  unfold raddE at HAE
  by_cases hp2 : priceB p = false
  · have ha : addE s ls p ⟨r1, r2, r3, r4, r5⟩ = 1 := by rw [← HAE.out, if_neg (by simp [hp2])]
    have HF := HBD.out 1 V ha (by decide) HBV.out
    rw [hp2]
    clear hp2 ha
    go_wp2_with fail
    exact HF
  have hp : priceB p = true := by simpa using hp2
  have HP : Hid (priceB p = true) := hp
  rw [hp]
  rw [if_pos hp] at HAE
  clear hp hp2
  go_wp2_with fail
  refine (rrest_any r1 r2 r3 r4 r5 _).mono ?_
  rintro e w1 ⟨rfl, b1⟩
  have HB1 : Hid (Below w.heap.size w w1) := HBV.out.trans (b1.mono HBV.out.size)
  have x0 := keeps b1 y0
  have x1 := keeps b1 y1
  have x2 := keeps b1 y2
  have x3 := keeps b1 y3
  have x4 := keeps b1 y4
  clear b1 y0 y1 y2 y3 y4
  by_cases hr : rchk ⟨r1, r2, r3, r4, r5⟩ = 0
  rotate_left
  · have ha : addE s ls p ⟨r1, r2, r3, r4, r5⟩ = rchk ⟨r1, r2, r3, r4, r5⟩ := by rw [← HAE.out, if_neg hr]
    have HF := HBD.out _ w1 ha hr HB1.out
    generalize rchk ⟨r1, r2, r3, r4, r5⟩ = k at *
    have hkb : (k != 0) = true := by simp [hr]
    clear ha
    go_wp2_with fail
    exact HF
  rw [if_pos hr] at HAE
  rw [hr]
  clear hr
  go_wp2_with fail
  refine (rat_any _ ls r1 _ (HLS.out w1 HB1.out)).mono ?_
  rintro e w2 ⟨rfl, k2, rfl⟩
  have HB2 : Hid (Below w.heap.size w (w1.drewN k2)) := belowN HB1.out k2
  have z0 := keeps (below_drewN' w1 k2) x0
  have z1 := keeps (below_drewN' w1 k2) x1
  have z2 := keeps (below_drewN' w1 k2) x2
  have z3 := keeps (below_drewN' w1 k2) x3
  have z4 := keeps (below_drewN' w1 k2) x4
  clear x0 x1 x2 x3 x4
  generalize w1.drewN k2 = w2 at *
  generalize atGo r1 0 ls = A at *
  obtain ⟨A1, A2⟩ := A
  simp only [] at HAE ⊢
  by_cases h7 : 0 ≤ A1
  · have ha : addE s ls p ⟨r1, r2, r3, r4, r5⟩ = 7 := by rw [← HAE.out, if_pos h7]
    have HF := HBD.out 7 w2 ha (by decide) HB2.out
    clear ha
    go_wp2_with fail
    exact HF
  rw [if_neg h7] at HAE
  go_wp2_with fail
  refine (rcount_any _ ls _ (HLS.out w2 HB2.out) HR60.out.1 HR60.out.2).mono ?_
  rintro e w3 ⟨rfl, k3, rfl⟩
  have HB3 : Hid (Below w.heap.size w (w2.drewN k3)) := belowN HB2.out k3
  have y0 := keeps (below_drewN' w2 k3) z0
  have y1 := keeps (below_drewN' w2 k3) z1
  have y2 := keeps (below_drewN' w2 k3) z2
  have y3 := keeps (below_drewN' w2 k3) z3
  have y4 := keeps (below_drewN' w2 k3) z4
  clear z0 z1 z2 z3 z4
  generalize w2.drewN k3 = w3 at *
  generalize cnt ls = C at *
  by_cases h4 : 60 ≤ C
  · have ha : addE s ls p ⟨r1, r2, r3, r4, r5⟩ = 4 := by rw [← HAE.out, if_pos h4]
    have HF := HBD.out 4 w3 ha (by decide) HB3.out
    clear ha
    go_wp2_with fail
    exact HF
  rw [if_neg h4] at HAE
  have HA0 : Hid (addE s ls p ⟨r1, r2, r3, r4, r5⟩ = 0) := HAE.out.symm
  go_wp2_with fail
  refine (rput_good s p r1 r2 r3 r4 r5 _ ls _ (HLS.out w3 HB3.out) H0.out HP.out).mono ?_
  rintro e w4 ⟨v', rfl, l4, b4⟩
  have HF := HOK.out v' w4 HA0.out l4 (HB3.out.trans (b4.mono HB3.out.size))
  clear l4 b4
  go_wp2_with fail
  exact HF

/-- Where an id is, as the document goes. -/
theorem idx_at {id : Int} {zs : List R} (h : (zs.map (·.id)).Nodup) : ∀ {k : Nat} (hk : k < zs.length), zs[k].id = id → idx id zs = k := by
  induction zs with
  | nil => intro k hk; simp at hk
  | cons r t ih =>
    intro k hk he
    rw [List.map_cons, List.nodup_cons] at h
    cases k with
    | zero =>
      simp at he
      rw [idx_cons, if_pos he]; rfl
    | succ k =>
      have hk2 : k < t.length := by simpa using hk
      simp at he
      have e := ih h.2 hk2 he
      rw [idx_cons, if_neg (fun e2 => h.1 (by rw [e2, ← he]; exact List.mem_map.2 ⟨t[k], List.getElem_mem hk2, rfl⟩)), e, if_neg (by omega)]
      omega
theorem atGo_at2 {id : Int} : ∀ {ls : List L} (j : Int), 0 ≤ j → ((allR ls).map (·.id)).Nodup → ∀ {i k : Nat} (hi : i < ls.length) (hk : k < ls[i].rests.length), ls[i].rests[k].id = id → atGo id j ls = (j + i, (k : Int)) := by
  intro ls
  induction ls with
  | nil => intro j _ _ i k hi; simp at hi
  | cons l t ih =>
    intro j hj hn i k hi hk he
    rw [allR_cons, List.map_append, List.nodup_append] at hn
    obtain ⟨n1, n2, n3⟩ := hn
    cases i with
    | zero =>
      simp at hk he
      have e := idx_at n1 hk he
      unfold atGo
      rw [e, if_pos (by omega)]
      simp
    | succ i =>
      have hi2 : i < t.length := by simpa using hi
      simp at hk he
      have hm : id ∈ (allR t).map (·.id) := by
        rw [← he]
        refine List.mem_map.2 ⟨t[i].rests[k], ?_, rfl⟩
        unfold allR
        exact List.mem_flatMap.2 ⟨t[i], List.getElem_mem hi2, List.getElem_mem hk⟩
      have hx : ¬ 0 ≤ idx id l.rests := fun h => n3 id ((idx_mem id l.rests).1 h) id hm rfl
      unfold atGo
      rw [if_neg hx, ih (j + 1) (by omega) n2 hi2 hk he]
      congr 1
      omega
/-- .. is where the program finds it. -/
theorem at_find {s : Int} {ls : List L} {id : Int} (h0 : schk s ls = 0) : (findE s ls id = 0 ∧ atGo id 0 ls = findP s ls id ∧ 0 ≤ (atGo id 0 ls).1) ∨ (findE s ls id = 5 ∧ (atGo id 0 ls).1 < 0) := by
  have hn := (schk_zero h0).2.2.2
  rw [ids_allR] at hn
  by_cases hf : findE s ls id = 0
  · obtain ⟨-, i, k, hi, hk, he, hp⟩ := find_spot hf
    have e := atGo_at2 0 (Int.le_refl _) hn hi hk he
    rw [Int.zero_add] at e
    exact .inl ⟨hf, by rw [e, hp], by rw [e]; simp⟩
  · refine .inr ⟨?_, ?_⟩
    · by_cases hs : (lastAt (flatP 0 ls) id).isSome = true
      · exact absurd (by unfold findE; rw [if_pos h0, if_pos hs]) hf
      · unfold findE; rw [if_pos h0, if_neg hs]
    · apply Classical.byContradiction
      intro h
      have hm := (atGo_mem id ls 0 (Int.le_refl _)).1 (by omega)
      rw [← ids_allR] at hm
      have h2 := id_ids.1 hm
      exact hf (by
        unfold findE
        rw [if_pos h0, if_pos (by
          cases hl : lastAt (flatP 0 ls) id with
          | none => exact absurd hl h2
          | some t => rfl)])

set_option maxRecDepth 100000 in
set_option maxHeartbeats 4000000 in
theorem rout_some (b o cc n : Nat) (ls : List L) (ps : List RP) (i k : Nat) (w : World) (hps : ps.map toL = ls) (hn : ls.length = n) (hc : n ≤ cc) (hm : cc ≤ 9223372036854775807) (hb : b < w.heap.size) (hl : rlv.Lies w b o (ps.map (·.1))) (he : ∀ p ∈ ps, SLe w (sv p.1) p.2) (hi : i < n) (p : Int) (zs : List R) (hli : ls[i]! = ⟨p, zs⟩) (hk : k < zs.length) (h60 : n ≤ 60) (hr60 : zs.length ≤ 60) :
    Calls Tryz.prog 19 #[.slice (some ⟨b, o, none⟩) n cc, .int .i64 i, .int .i64 k] w fun x w' => ∃ v', x = .returned v' ∧ LS w' v' (dropL ls i k) ∧ Below w.heap.size w w' := by
  have HLL : Hid (LL w b o ls) := by rw [← hps]; exact loose_ll hl he
  have HN : Hid (ls.length = n) := hn
  have HPN : Hid (ps.length = n) := by show _ = _; rw [← hn, ← hps, List.length_map]
  have HL : Hid (rlv.Lies w b o (ps.map (·.1))) := hl
  have HE : Hid (∀ p ∈ ps, SLe w (sv p.1) p.2) := he
  have HPS : Hid (ps.map toL = ls) := hps
  have HLI : Hid (ls[i]! = ⟨p, zs⟩) := hli
  obtain ⟨rq, rc, c0, c1, hsl⟩ := HLL.out.at (by rw [HN.out]; exact hi) hli
  have hne : zs ≠ [] := fun e => by rw [e] at hk; simp at hk
  clear hl he hps hn hli
  have i0 : ¬ ((i : Int) < 0) := by omega
  have i1 : (i : Int) < (n : Int) := by omega
  have i2 : (i : Int) ≤ (cc : Int) := by omega
  have i3 : ¬ (((i + 1 : Nat) : Int) < 0) := by omega
  have i4 : ((i + 1 : Nat) : Int) ≤ (n : Int) := by omega
  have i5 : (n : Int) ≤ (cc : Int) := by omega
  have w1e : wrap64 ((i : Int) + 1) = ((i + 1 : Nat) : Int) := by unfold wrap64; omega
  have HX1 : Hid (rlv.SL w (.slice (some ⟨b, o, none⟩) i cc) ((ps.take i).map (·.1))) := by
    show rlv.SL _ _ _
    rw [List.map_take]
    exact rlv.sl_take (by rw [List.length_map, HPN.out]; omega) (by rw [List.length_map, HPN.out]; exact hc) hm hb HL.out
  obtain ⟨v1, w1, A1, O1, B1⟩ := lay_first w (.slice (some ⟨b, o, none⟩) i cc) _ HX1.out (by simp; omega)
  have HA1 : Hid (appL (.slice none 0 0) (.slice (some ⟨b, o, none⟩) i cc) w v1 w1) := A1
  have HB1 : Hid (Below w.heap.size w w1) := B1
  have HO1 : Hid (rlv.OwnQ w1 w.heap.size v1 ((ps.take i).map (·.1))) := O1
  have x0 := keeps B1 c0
  have x1 := keeps B1 c1
  have HWO : Hid (Calls Tryz.prog 38 #[.slice rq zs.length rc, .int .i64 k] w1 fun e w' => ∃ v, e = .returned v ∧ OwnQ w' w1.heap.size v (zs.take k ++ zs.drop (k + 1)) ∧ Below w1.heap.size w1 w') := by
    rcases (hsl.sl hne).below B1 with ⟨hv, hz'⟩ | ⟨b2, o2, cp, hv, h2, h3, h4, h5⟩
    · exact absurd hz' hne
    · cases hv
      exact without_some b2 o2 rc zs.length zs k w1 rfl h4 h2 h3 (by omega) h5 hk
  clear A1 O1 B1 HX1 c0 c1 hsl
  go_enter Tryz.func19, Tryz.ntmps19
  go_upto_region 3 with (at_builtin; refine Lib.wpList_append_run _ rfl _ _ _ _ rfl _ _ rfl rfl _ _ HA1.out ?_)
  go_wp2_with fail
  refine HWO.out.mono ?_
  rintro e w2 ⟨v3, rfl, O3, B2⟩
  obtain ⟨q3, c3, hv3⟩ := OwnM.form O3
  subst hv3
  have hlen : (zs.take k ++ zs.drop (k + 1)).length = zs.length - 1 := by simp; omega
  have HO3 : Hid (OwnQ w2 w1.heap.size (.slice q3 (zs.length - 1) c3) (zs.take k ++ zs.drop (k + 1))) := by rw [hlen] at O3; exact O3
  have HB2 : Hid (Below w1.heap.size w1 w2) := B2
  rw [hlen]
  have y0 := keeps B2 x0
  clear O3 B2 hlen x0 x1
  by_cases hz1 : zs.length = 1
  · rw [hz1]
    by_cases hcap : i + 1 = cc
    · obtain rfl : n = i + 1 := by omega
      subst hcap
      have HX5 : Hid (rlv.SL w (.slice (some ⟨b, o, none⟩) 0 0) ((ps.drop (i + 1)).map (·.1))) := by
        show rlv.SL _ _ _
        rw [List.map_drop]
        rw [List.drop_eq_nil_of_le (by rw [List.length_map, HPN.out]; omega)]
        exact .inr ⟨b, o, 0, rfl, by simp, by omega, hb, fun j hj => absurd hj (Nat.not_lt_zero _)⟩
      obtain ⟨v5, w5, A5, E5, B5⟩ := lay_rest2 w w1 w2 v1 (.slice (some ⟨b, o, none⟩) 0 0) (ps.take i) (ps.drop (i + 1)) HB1.out HO1.out HB2.out HX5.out (fun y hy => HE.out y (List.mem_of_mem_take hy)) (fun y hy => HE.out y (List.mem_of_mem_drop hy)) (by have := HPN.out; simp; omega)
      have HF : Hid (LS w5 v5 (dropL ls i k) ∧ Below w.heap.size w w5) := by
        refine ⟨?_, B5⟩
        rw [List.map_take, List.map_drop, HPS.out] at E5
        unfold dropL
        rw [HLI.out, if_pos hz1, List.eraseIdx_eq_take_drop_succ]
        exact E5
      have HA5 : Hid (appL v1 (.slice (some ⟨b, o, none⟩) 0 0) w2 v5 w5) := A5
      clear A5 E5 B5 HX5
      go_wp2_with (at_builtin; refine Lib.wpList_append_run _ rfl _ _ _ _ rfl _ _ rfl rfl _ _ HA5.out ?_)
      go_ret
      exact ⟨_, rfl, HF.out⟩
    · have HX5 : Hid (rlv.SL w (.slice (some ⟨b, o + (i + 1) * 2, none⟩) (n - (i + 1)) (cc - (i + 1))) ((ps.drop (i + 1)).map (·.1))) := by
        show rlv.SL _ _ _
        rw [List.map_drop]
        have h := rlv.sl_drop (k := i + 1) (by rw [List.length_map, HPN.out]; omega) (by rw [List.length_map, HPN.out]; exact hc) hm hb HL.out
        rw [List.length_map, HPN.out] at h
        unfold rlv.offK at h
        rw [if_neg hcap] at h
        exact h
      obtain ⟨v5, w5, A5, E5, B5⟩ := lay_rest2 w w1 w2 v1 (.slice (some ⟨b, o + (i + 1) * 2, none⟩) (n - (i + 1)) (cc - (i + 1))) (ps.take i) (ps.drop (i + 1)) HB1.out HO1.out HB2.out HX5.out (fun y hy => HE.out y (List.mem_of_mem_take hy)) (fun y hy => HE.out y (List.mem_of_mem_drop hy)) (by have := HPN.out; simp; omega)
      have HF : Hid (LS w5 v5 (dropL ls i k) ∧ Below w.heap.size w w5) := by
        refine ⟨?_, B5⟩
        rw [List.map_take, List.map_drop, HPS.out] at E5
        unfold dropL
        rw [HLI.out, if_pos hz1, List.eraseIdx_eq_take_drop_succ]
        exact E5
      have HA5 : Hid (appL v1 (.slice (some ⟨b, o + (i + 1) * 2, none⟩) (n - (i + 1)) (cc - (i + 1))) w2 v5 w5) := A5
      clear A5 E5 B5 HX5
      go_wp2_with (at_builtin; refine Lib.wpList_append_run _ rfl _ _ _ _ rfl _ _ rfl rfl _ _ HA5.out ?_)
      go_ret
      exact ⟨_, rfl, HF.out⟩
  · have hz2 : (0 : Int) < ((zs.length - 1 : Nat) : Int) := by omega
    obtain ⟨m3, hm3⟩ : ∃ m3, zs.length - 1 = m3 := ⟨_, rfl⟩
    rw [hm3] at HO3 hz2 ⊢
    have hz3 : 0 < m3 := by omega
    by_cases hcap : i + 1 = cc
    · obtain rfl : n = i + 1 := by omega
      subst hcap
      have HX5 : Hid (rlv.SL w (.slice (some ⟨b, o, none⟩) 0 0) ((ps.drop (i + 1)).map (·.1))) := by
        show rlv.SL _ _ _
        rw [List.map_drop]
        rw [List.drop_eq_nil_of_le (by rw [List.length_map, HPN.out]; omega)]
        exact .inr ⟨b, o, 0, rfl, by simp, by omega, hb, fun j hj => absurd hj (Nat.not_lt_zero _)⟩
      obtain ⟨v4, w4, v5, w5, A4, A5, E5, B5⟩ := lay_last w w1 w2 v1 (.slice (some ⟨b, o, none⟩) 0 0) (ps.take i) (ps.drop (i + 1)) p q3 m3 c3 (zs.take k ++ zs.drop (k + 1)) HB1.out HO1.out HB2.out HO3.out HX5.out (fun y hy => HE.out y (List.mem_of_mem_take hy)) (fun y hy => HE.out y (List.mem_of_mem_drop hy)) (by have := HPN.out; simp; omega)
      have HF : Hid (LS w5 v5 (dropL ls i k) ∧ Below w.heap.size w w5) := by
        refine ⟨?_, B5⟩
        rw [List.map_take, List.map_drop, HPS.out] at E5
        unfold dropL
        rw [HLI.out, if_neg hz1, List.eraseIdx_eq_take_drop_succ, List.set_eq_take_append_cons_drop, if_pos (by rw [HN.out]; exact hi)]
        exact E5
      have HA4 : Hid (appL v1 (.slice (some ⟨w2.heap.size, 0, none⟩) 1 1) (w2.alloc (.cells #[.int .i64 p, .slice q3 m3 c3] 34)) v4 w4) := A4
      have HA5 : Hid (appL v4 (.slice (some ⟨b, o, none⟩) 0 0) w4 v5 w5) := A5
      clear A4 A5 E5 B5 HX5
      go_upto_region 6 with (at_builtin; refine Lib.wpList_append_run _ rfl _ _ _ _ rfl _ _ rfl rfl _ _ HA4.out ?_)
      go_wp2_with (at_builtin; refine Lib.wpList_append_run _ rfl _ _ _ _ rfl _ _ rfl rfl _ _ HA5.out ?_)
      go_ret
      exact ⟨_, rfl, HF.out⟩
    · have HX5 : Hid (rlv.SL w (.slice (some ⟨b, o + (i + 1) * 2, none⟩) (n - (i + 1)) (cc - (i + 1))) ((ps.drop (i + 1)).map (·.1))) := by
        show rlv.SL _ _ _
        rw [List.map_drop]
        have h := rlv.sl_drop (k := i + 1) (by rw [List.length_map, HPN.out]; omega) (by rw [List.length_map, HPN.out]; exact hc) hm hb HL.out
        rw [List.length_map, HPN.out] at h
        unfold rlv.offK at h
        rw [if_neg hcap] at h
        exact h
      obtain ⟨v4, w4, v5, w5, A4, A5, E5, B5⟩ := lay_last w w1 w2 v1 (.slice (some ⟨b, o + (i + 1) * 2, none⟩) (n - (i + 1)) (cc - (i + 1))) (ps.take i) (ps.drop (i + 1)) p q3 m3 c3 (zs.take k ++ zs.drop (k + 1)) HB1.out HO1.out HB2.out HO3.out HX5.out (fun y hy => HE.out y (List.mem_of_mem_take hy)) (fun y hy => HE.out y (List.mem_of_mem_drop hy)) (by have := HPN.out; simp; omega)
      have HF : Hid (LS w5 v5 (dropL ls i k) ∧ Below w.heap.size w w5) := by
        refine ⟨?_, B5⟩
        rw [List.map_take, List.map_drop, HPS.out] at E5
        unfold dropL
        rw [HLI.out, if_neg hz1, List.eraseIdx_eq_take_drop_succ, List.set_eq_take_append_cons_drop, if_pos (by rw [HN.out]; exact hi)]
        exact E5
      have HA4 : Hid (appL v1 (.slice (some ⟨w2.heap.size, 0, none⟩) 1 1) (w2.alloc (.cells #[.int .i64 p, .slice q3 m3 c3] 34)) v4 w4) := A4
      have HA5 : Hid (appL v4 (.slice (some ⟨b, o + (i + 1) * 2, none⟩) (n - (i + 1)) (cc - (i + 1))) w4 v5 w5) := A5
      clear A4 A5 E5 B5 HX5
      go_upto_region 6 with (at_builtin; refine Lib.wpList_append_run _ rfl _ _ _ _ rfl _ _ rfl rfl _ _ HA4.out ?_)
      go_wp2_with (at_builtin; refine Lib.wpList_append_run _ rfl _ _ _ _ rfl _ _ rfl rfl _ _ HA5.out ?_)
      go_ret
      exact ⟨_, rfl, HF.out⟩
theorem rout_good (s : Int) (v : Value) (ls : List L) (i k : Nat) (w : World) (h : LS w v ls) (h0 : schk s ls = 0) (hi : i < ls.length) (hk : k < ls[i].rests.length) :
    Calls Tryz.prog 19 #[v, .int .i64 i, .int .i64 k] w fun x w' => ∃ v', x = .returned v' ∧ LS w' v' (dropL ls i k) ∧ Below w.heap.size w w' := by
  obtain ⟨z1, z2, z3, -⟩ := schk_zero h0
  have hE := sgo_each z2
  have hlen := len_cnt hE
  rcases h with ⟨rfl, rfl⟩ | ⟨b, o, c, rfl, h2, h3, h4, h5⟩
  · simp at hi
  · obtain ⟨ps, e1, e2, e3⟩ := ll_loose ls o h5
    exact rout_some b o c ls.length ls ps i k w e1 rfl h2 h3 h4 e2 e3 hi ls[i].price ls[i].rests (by rw [getE _ _ hi]) hk (by omega) (by have := rests_le (List.getElem_mem hi); omega)
end Go.Proofs.YtmgodofnhjmbfaaGreatDoor.sid
