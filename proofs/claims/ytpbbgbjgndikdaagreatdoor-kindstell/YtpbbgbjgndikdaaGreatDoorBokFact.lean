/- Contracts over this seat's translation: side.Add. Contracts over this seat's translation: book.with. Contracts over this seat's translation: book.Put. Contracts over this seat's translation: book.Put, where Add goes well; and at every book. Plain facts: what an Add that went well gives. Plain facts on a book behind a Put that went well. No walk. -/
import Derived.Test.YtpbbgbjgndikdaaGreatDoorSidWith2
import Derived.Deep.RegionHeld3
import Derived.Deep.RegionLaw
import Derived.Test.YtpbbgbjgndikdaaGreatDoorBokChk
import Derived.Test.YtpbbgbjgndikdaaGreatDoorBokBest
import Derived.Test.YtpbbgbjgndikdaaGreatDoorSidFind2
import Derived.Test.YtpbbgbjgndikdaaGreatDoorBokFind
namespace Go.Proofs.YtpbbgbjgndikdaaGreatDoor.sid
open Go.RowKit Go.Proofs.YtpbbgbjgndikdaaGreatDoor.spn Go.Proofs.YtpbbgbjgndikdaaGreatDoor.que Go.Maps
open Go.Proofs.YtpbbgbjgndikdaaGreatDoor.tickP (errB priceB sideB betOk betR tprice_V)

/-- What is wrong with one more, and the side then. -/
def addE (s : Int) (ls : List L) (p : Int) (r : R) : Int :=
  if schk s ls = 0 then (if priceB p = true then (if rchk r = 0 then (if r.id ∈ ids ls then 7 else if cnt ls = 60 then 4 else 0) else rchk r) else 1) else schk s ls
def addL (s : Int) (ls : List L) (p : Int) (r : R) : List L := if addE s ls p r = 0 then putL s p r ls else []
def AddPost (s : Int) (ls : List L) (p : Int) (r : R) (w : World) (x : Ending) (w' : World) : Prop :=
  Below w.heap.size w w' ∧ ∃ v', x = .returned (.tuple #[v', errV (addE s ls p r)]) ∧ DL w' w.heap.size v' (addL s ls p r)
theorem addL_bad {s : Int} {ls : List L} {p : Int} {r : R} {k : Int} (h : addE s ls p r = k) (hk : ¬ k = 0) : addL s ls p r = [] := by unfold addL; rw [h, if_neg hk]
theorem add_bad {s : Int} {ls : List L} {p : Int} {r : R} {w W : World} {k : Int} (h : addE s ls p r = k) (hk : ¬ k = 0) (hW : Below w.heap.size w W) : AddPost s ls p r w (.returned (.tuple #[.slice none 0 0, .iface 83 (.int .i64 k)])) W := by
  refine ⟨hW, _, ?_, by rw [addL_bad h hk]; exact dl_nil _ _⟩
  rw [h, errV_of hk]

set_option maxRecDepth 100000 in
set_option maxHeartbeats 4000000 in
theorem add_in (s : Int) (vq : Option Addr) (vm vc : Nat) (ls : List L) (p : Int) (a b c d e : Int) (w V0 : World) (hV0 : V0 = w.alloc (.cells #[.int .i64 a, .int .i64 b, .int .i64 c, .int .i64 d, .int .i64 e] 26)) (HLS : Hid (∀ W, Below w.heap.size w W → LS W (.slice vq vm vc) ls)) (h0 : schk s ls = 0) (hp : priceB p = true) (hr : rchk ⟨a, b, c, d, e⟩ = 0) (hkey : keyOf Tryz.prog 3 (.int .i64 a) = some (.int .i64 a)) :
    Calls Tryz.prog 48 #[.int .i64 s, .slice vq vm vc, .int .i64 p, .agg #[.int .i64 a, .int .i64 b, .int .i64 c, .int .i64 d, .int .i64 e]] w fun x w' => AddPost s ls p ⟨a, b, c, d, e⟩ w x w' := by
  have hB0 : Below w.heap.size w V0 := by rw [hV0]; exact (Below.refl _ _).alloc (Nat.le_refl _) _
  have hR0 : V0.heap[w.heap.size]? = some (.cells #[.int .i64 a, .int .i64 b, .int .i64 c, .int .i64 d, .int .i64 e] 26 (0, 0)) := by rw [hV0]; exact heap_alloc_new w _
  have hcon := places_any s _ ls V0 (HLS.out V0 hB0)
  have HB0 : Hid (Below w.heap.size w V0) := hB0
  have x0 : V0.cell? ⟨w.heap.size, 0, none⟩ = some (.int .i64 a) := by simp [World.cell?, hR0]
  have x1 : V0.cell? ⟨w.heap.size, 1, none⟩ = some (.int .i64 b) := by simp [World.cell?, hR0]
  have x2 : V0.cell? ⟨w.heap.size, 2, none⟩ = some (.int .i64 c) := by simp [World.cell?, hR0]
  have x3 : V0.cell? ⟨w.heap.size, 3, none⟩ = some (.int .i64 d) := by simp [World.cell?, hR0]
  have x4 : V0.cell? ⟨w.heap.size, 4, none⟩ = some (.int .i64 e) := by simp [World.cell?, hR0]
  have hsz0 : w.heap.size < V0.heap.size := (Array.getElem?_eq_some_iff.1 hR0).1
  have HPL : Hid (∀ x w', PlacesPost s ls V0 x w' → Below V0.heap.size V0 w' ∧ ∃ B, x = .returned (.tuple #[.map (some B), .nilIface]) ∧ Own w' B (flatP 0 ls)) := fun x w' hp => by
    obtain ⟨h1, ⟨h2, _⟩ | ⟨_, B, _, h3, h4⟩⟩ := hp
    · exact absurd h0 h2
    · exact ⟨h1, B, h3, h4⟩
  have HPR := fun W => tprice_V W p W (Below.refl _ _)
  rw [hp] at HPR
  simp only [show errB true = .nilIface from rfl] at HPR
  have HRE := fun W => rest_any a b c d e W
  rw [hr, errV_zero] at HRE
  have hh := has_last (flatP 0 ls) a
  have ha := at_last (flatP 0 ls) a
  have HPOST : Hid (∀ W k, addE s ls p ⟨a, b, c, d, e⟩ = k → ¬ k = 0 → Below w.heap.size w W → AddPost s ls p ⟨a, b, c, d, e⟩ w (.returned (.tuple #[.slice none 0 0, .iface 83 (.int .i64 k)])) W) := fun W k h1 h2 h3 => add_bad h1 h2 h3
  obtain ⟨z1, z2, z3, z4⟩ := schk_zero h0
  have HE1 : Hid (¬ lastAt (flatP 0 ls) a = none → addE s ls p ⟨a, b, c, d, e⟩ = 7) := fun h => by unfold addE; rw [if_pos h0, if_pos hp, if_pos hr, if_pos (id_ids.2 h)]
  have HE2 : Hid (lastAt (flatP 0 ls) a = none → cnt ls = 60 → addE s ls p ⟨a, b, c, d, e⟩ = 4) := fun h h6 => by unfold addE; rw [if_pos h0, if_pos hp, if_pos hr, if_neg (fun hh => id_ids.1 hh h), if_pos h6]
  have HE3 : Hid (lastAt (flatP 0 ls) a = none → ¬ cnt ls = 60 → addE s ls p ⟨a, b, c, d, e⟩ = 0) := fun h h6 => by unfold addE; rw [if_pos h0, if_pos hp, if_pos hr, if_neg (fun hh => id_ids.1 hh h), if_neg h6]
  have HFINE : Hid (∀ W v', Below w.heap.size w W → addE s ls p ⟨a, b, c, d, e⟩ = 0 → DL W w.heap.size v' (putL s p ⟨a, b, c, d, e⟩ ls) → AddPost s ls p ⟨a, b, c, d, e⟩ w (.returned (.tuple #[v', .nilIface])) W) := fun W v' h1 h2 h3 => ⟨h1, v', by rw [h2]; rfl, by unfold addL; rw [if_pos h2]; exact h3⟩
  have hlen := len_cnt (sgo_each z2)
  have HWITH : Hid (∀ W, Below w.heap.size w W → Calls Tryz.prog 79 #[.int .i64 s, .slice vq vm vc, .int .i64 p] W fun e w' => WithPost s p ls W e w') := fun W hW => withLevel_any s p _ ls W (HLS.out W hW) (by omega) (fun l hl => by have := rests_le hl; omega) (fun l hl => (lchk_zero (sgo_each z2 l hl)).2.1)
  have hsn := seen_all z4
  generalize AddPost s ls p ⟨a, b, c, d, e⟩ w = POST at *
  have HLEN : Hid (∀ W B, Own W B (flatP 0 ls) → W.ownsMap Tryz.prog 3 plR B (flatP 0 ls).length (mapD (flatP 0 ls)) ∧ Maps.size (mapD (flatP 0 ls)) = seenN ls) := fun W B h => ⟨h, rfl⟩
  have HZ3 : Hid (∀ aa zs bb, putL s p ⟨a, b, c, d, e⟩ ls = aa ++ (⟨p, zs ++ [⟨a, b, c, d, e⟩]⟩ : L) :: bb → zs.length ≤ 60) := fun aa zs bb hput => by
    have h1 := cnt_put s p ⟨a, b, c, d, e⟩ ls
    have h2 : (⟨p, zs ++ [⟨a, b, c, d, e⟩]⟩ : L) ∈ putL s p ⟨a, b, c, d, e⟩ ls := by rw [hput]; simp
    have h3 := rests_le h2
    simp at h3
    omega
  clear h0 hp hr hB0 hR0 z1 z2 z3 z4 hlen
  cases hl : lastAt (flatP 0 ls) a with
  | some t =>
    have HXE : Hid (addE s ls p ⟨a, b, c, d, e⟩ = 7) := HE1.out (by rw [hl]; simp)
    rw [hl] at hh ha
    simp only [Option.isSome_some, Option.getD_some] at hh ha
    obtain ⟨t1, t2, t3⟩ := t
    simp only [] at hh ha
    clear hl HE1 HE2 HE3 HFINE HWITH hsn HZ3
    go_enter Tryz.func48, Tryz.ntmps48
    go_wp2_with fail
    rw [← hV0]
    refine hcon.mono ?_
    rintro x w1 hp
    obtain ⟨h1, B, rfl, hO⟩ := HPL.out _ _ hp
    have H1 : Hid (Below V0.heap.size V0 w1) := h1
    have HO : Hid (Own w1 B (flatP 0 ls)) := hO
    clear hcon HPL hp h1 hO
    go_wp2_with fail
    refine (HPR w1).mono ?_
    rintro x w2 ⟨rfl, h2⟩
    have H2 : Hid (Below w1.heap.size w1 w2) := h2
    have y0 := keeps h2 (keeps H1.out x0)
    have y1 := keeps h2 (keeps H1.out x1)
    have y2 := keeps h2 (keeps H1.out x2)
    have y3 := keeps h2 (keeps H1.out x3)
    have y4 := keeps h2 (keeps H1.out x4)
    have hs2 : w.heap.size < w2.heap.size := Nat.lt_of_lt_of_le hsz0 (Nat.le_trans H1.out.size h2.size)
    clear HPR h2 x0 x1 x2 x3 x4
    go_wp2_with fail
    refine (HRE w2).mono ?_
    rintro x w3 ⟨rfl, h3⟩
    have H3 : Hid (Below w.heap.size w w3) := (HB0.out.trans ((H1.out.trans ((H2.out.trans (h3.mono H2.out.size)).mono H1.out.size)).mono HB0.out.size))
    have y0' := keeps h3 y0
    have hs3 : w.heap.size < w3.heap.size := Nat.lt_of_lt_of_le hs2 h3.size
    obtain ⟨hown, -⟩ := HLEN.out _ _ ((HO.out.below H2.out).below h3)
    have HXX : Hid (∀ o, POST (.returned (.tuple #[.slice none 0 0, .iface 83 (.int .i64 7)])) (w3.alloc o)) := fun o => HPOST.out _ 7 HXE.out (by omega) (H3.out.alloc H3.out.size _)
    clear HRE h3 y0 y1 y2 y3 y4 HPOST
    go_wp2_with (at_lookup; refine lookup_place _ rfl _ _ 119 rfl 3 136 lawI Tryz.underlying119 (zeroPl _) B _ _ rfl hown _ _ rfl hkey _ _ _ ha hh ?_)
    exact HXX.out _
  | none =>
    rw [hl] at hh ha
    simp only [Option.isSome_none, Option.getD_none] at hh ha
    have HEa : Hid (cnt ls = 60 → addE s ls p ⟨a, b, c, d, e⟩ = 4) := fun h => HE2.out hl h
    have HEb : Hid (¬ cnt ls = 60 → addE s ls p ⟨a, b, c, d, e⟩ = 0) := fun h => HE3.out hl h
    clear hl HE1 HE2 HE3
    generalize seenN ls = z at *
    generalize cnt ls = T at *
    go_enter Tryz.func48, Tryz.ntmps48
    go_wp2_with fail
    rw [← hV0]
    refine hcon.mono ?_
    rintro x w1 hp
    obtain ⟨h1, B, rfl, hO⟩ := HPL.out _ _ hp
    have H1 : Hid (Below V0.heap.size V0 w1) := h1
    have HO : Hid (Own w1 B (flatP 0 ls)) := hO
    clear hcon HPL hp h1 hO
    go_wp2_with fail
    refine (HPR w1).mono ?_
    rintro x w2 ⟨rfl, h2⟩
    have H2 : Hid (Below w1.heap.size w1 w2) := h2
    have y0 := keeps h2 (keeps H1.out x0)
    have y1 := keeps h2 (keeps H1.out x1)
    have y2 := keeps h2 (keeps H1.out x2)
    have y3 := keeps h2 (keeps H1.out x3)
    have y4 := keeps h2 (keeps H1.out x4)
    have hs2 : w.heap.size < w2.heap.size := Nat.lt_of_lt_of_le hsz0 (Nat.le_trans H1.out.size h2.size)
    clear HPR h2 x0 x1 x2 x3 x4
    go_wp2_with fail
    refine (HRE w2).mono ?_
    rintro x w3 ⟨rfl, h3⟩
    have H3 : Hid (Below w.heap.size w w3) := (HB0.out.trans ((H1.out.trans ((H2.out.trans (h3.mono H2.out.size)).mono H1.out.size)).mono HB0.out.size))
    have u0 := keeps h3 y0
    have u1 := keeps h3 y1
    have u2 := keeps h3 y2
    have u3 := keeps h3 y3
    have u4 := keeps h3 y4
    have hs3 : w.heap.size < w3.heap.size := Nat.lt_of_lt_of_le hs2 h3.size
    obtain ⟨hown, hsz⟩ := HLEN.out _ _ ((HO.out.below H2.out).below h3)
    have hown2 := fun o => World.ownsMap.alloc hown o
    clear HRE h3 y0 y1 y2 y3 y4
    by_cases h6 : T = 60
    · have HXX : Hid (∀ o, POST (.returned (.tuple #[.slice none 0 0, .iface 83 (.int .i64 4)])) (w3.alloc o)) := fun o => HPOST.out _ 4 (HEa.out h6) (by omega) (H3.out.alloc H3.out.size _)
      have hz6 : (z : Int) = 60 := by omega
      have hz60 : z = 60 := by omega
      subst hz60
      clear HPOST hz6 h6 hsn
      go_wp2_with (first | (at_lookup; refine lookup_place _ rfl _ _ 119 rfl 3 136 lawI Tryz.underlying119 (zeroPl _) B _ _ rfl hown _ _ rfl hkey _ _ _ ha hh ?_) | (at_len; refine wpList_len_own _ rfl _ 119 rfl 3 136 Tryz.underlying119 plR B _ _ rfl (hown2 _) ?_; rw [hsz]))
      exact HXX.out _
    · have hz6 : ¬ ((z : Int) = 60) := by omega
      have hz60 : ¬ (z = 60) := by omega
      have hz61 : ((z : Int) == 60) = false := by simp; omega
      have HB4 : Hid (∀ o, Below w.heap.size w (w3.alloc o)) := fun o => H3.out.alloc H3.out.size _
      have HE0 := HEb.out h6
      clear HPOST hsn h6 HEa HEb
      go_wp2_with (first | (at_lookup; refine lookup_place _ rfl _ _ 119 rfl 3 136 lawI Tryz.underlying119 (zeroPl _) B _ _ rfl hown _ _ rfl hkey _ _ _ ha hh ?_) | (at_len; refine wpList_len_own _ rfl _ 119 rfl 3 136 Tryz.underlying119 plR B _ _ rfl (hown2 _) ?_; rw [hsz]))
      have HBA : Hid (Below w3.heap.size w3 (w3.alloc (.cells #[.int .i64 0, .int .i64 0] 136))) := (Below.refl _ _).alloc (Nat.le_refl _) _
      have HB44 := HB4.out (.cells #[.int .i64 0, .int .i64 0] 136)
      generalize w3.alloc (.cells #[.int .i64 0, .int .i64 0] 136) = W4 at *
      refine (HWITH.out W4 HB44).mono ?_
      rintro x w5 ⟨v5, aa, ⟨⟨xp, xq, xn, xc⟩, zs⟩, bb, rfl, hD, hxp, hput, hB5⟩
      simp only [] at hxp hput
      have hzl : zs.length ≤ 60 := HZ3.out _ _ _ (hput _)
      have hex := hD.each (⟨xp, xq, xn, xc⟩, zs) (by simp)
      have hxn : xn = zs.length := by
        obtain ⟨q', c', e⟩ := OwnM.form hex
        have e' : Value.slice xq xn xc = .slice q' zs.length c' := e
        simp at e'
        exact e'.2.1
      subst hxn
      subst hxp
      have ho5 := hD.own
      rw [List.append_nil, List.map_append, List.map_cons] at ho5
      rcases ho5.2 with ⟨-, hz⟩ | ⟨g, off, cap, cur, e5, -, -, hcap, hcm, -, -⟩
      · simp at hz
      · rw [show (aa.map (·.1) ++ (⟨xp, xq, zs.length, xc⟩ : rlv.RL) :: bb.map (·.1)).length = (aa ++ (((⟨xp, xq, zs.length, xc⟩ : rlv.RL), zs) : RP) :: bb).length by simp] at e5 hcap
        subst e5
        have hcap2 : cap ≤ 9223372036854775807 := by simpa [maxLen] using hcm
        obtain ⟨-, -, c1, hfr, hgb, hgs⟩ := ownr_at ho5
        rw [List.length_map] at c1
        have f1 := hfr (off + aa.length * 2 + 1)
        have hkn : aa.length < (aa ++ (((⟨xp, xq, zs.length, xc⟩ : rlv.RL), zs) : RP) :: bb).length := by simp
        have t0 := keeps hB5 (keeps HBA.out u0)
        have t1 := keeps hB5 (keeps HBA.out u1)
        have t2 := keeps hB5 (keeps HBA.out u2)
        have t3 := keeps hB5 (keeps HBA.out u3)
        have t4 := keeps hB5 (keeps HBA.out u4)
        have hw4 : w.heap.size < W4.heap.size := Nat.lt_of_lt_of_le hs3 HBA.out.size
        have hs5 : w.heap.size < w5.heap.size := Nat.lt_of_lt_of_le hw4 hB5.size
        obtain ⟨i0, hi, hz0, hz1, hz2⟩ := infoR'
        have HI : Hid (Tryz.prog.info? 26 = some i0) := hi
        have OV : Hid (OwnM w5 W4.heap.size 26 5 (.slice xq zs.length xc) zs.length (flat zs)) := hex
        have HDW : Hid (∀ W W' q' c', Below w5.heap.size w5 W → W.grownBy W' (Value.slice xq zs.length xc).ownBlock → OwnM W' W4.heap.size 26 5 (.slice q' (zs.length + 1) c') (zs.length + 1) (flat zs ++ [.int .i64 a, .int .i64 b, .int .i64 c, .int .i64 d, .int .i64 e]) → ((Value.slice q' (zs.length + 1) c').ownBlock = (Value.slice xq zs.length xc).ownBlock ∨ (Value.slice q' (zs.length + 1) c').ownBlock = some W.heap.size) → POST (.returned (.tuple #[.slice (some ⟨g, off, none⟩) (aa ++ (((⟨xp, xq, zs.length, xc⟩ : rlv.RL), zs) : RP) :: bb).length cap, .nilIface])) (W'.setCell ⟨g, off + aa.length * 2 + 1, none⟩ (.slice q' (zs.length + 1) c'))) := fun W W' q' c' hW hg hO hat => by
          have hDW := hD.below hW
          have hO2 : OwnQ W' W4.heap.size (.slice q' (zs.length + 1) c') (zs ++ [⟨a, b, c, d, e⟩]) := by
            show OwnM _ _ _ _ _ _ _
            rw [flat_append, List.length_append]; exact hO
          have hsw := DeepT.swap hDW hg hO2 (hat.imp id (fun e => ⟨_, e, Nat.le_refl _⟩))
          have hlt : ∀ k, (Value.slice xq zs.length xc).ownBlock = some k → W4.heap.size ≤ k := fun k hk => (OwnM.lt hex k hk).1
          have hBW : Below W4.heap.size W4 W := hB5.trans (hW.mono hB5.size)
          have hBW' : Below W4.heap.size W4 W' := hBW.grown hg hBW.size hlt
          refine HFINE.out _ _ (HB44.trans (((hBW'.setCell hgb _)).mono HB44.size)) HE0 ?_
          rw [hput, show aa.map toL ++ (⟨xp, zs ++ [⟨a, b, c, d, e⟩]⟩ : L) :: bb.map toL = (aa ++ (((⟨xp, q', zs.length + 1, c'⟩ : rlv.RL), zs ++ [⟨a, b, c, d, e⟩]) : RP) :: bb).map toL by simp [toL]]
          exact ⟨_, rfl, hsw.mono HB44.size⟩
        have hxlt : ∀ k, (Value.slice xq zs.length xc).ownBlock = some k → W4.heap.size ≤ k ∧ k < w5.heap.size := fun k hk => OwnM.lt hex k hk
        have hxg : (Value.slice xq zs.length xc).ownBlock ≠ some g := fun e => hD.far (⟨xp, xq, zs.length, xc⟩, zs) (by simp) g e rfl
        clear hD hput hi hex ho5 HWITH HFINE HZ3 HE0 hfr hcm hown hown2 hsz ha hh hkey HLEN u0 u1 u2 u3 u4
        generalize hkk : aa.length = k at *
        generalize hnn : (aa ++ (((⟨xp, xq, zs.length, xc⟩ : rlv.RL), zs) : RP) :: bb).length = n at *
        clear hkk hnn
        have hk0 : ¬ ((k : Int) < 0) := by omega
        have hk3 : (k : Int) < (n : Int) := by omega
        have hk6 : (0 : Int) ≤ (k : Int) := by omega
        have HB5 : Hid (Below W4.heap.size W4 w5) := hB5
        have SO : Hid (∀ W, Below w5.heap.size w5 W → (Below W4.heap.size W4 W ∧ W.cell? ⟨g, off + k * 2 + 1, none⟩ = some (.slice xq zs.length xc) ∧ W.frozen? ⟨g, off + k * 2 + 1, none⟩ = false ∧ W.cell? ⟨w.heap.size, 0, none⟩ = some (.int .i64 a) ∧ W.cell? ⟨w.heap.size, 1, none⟩ = some (.int .i64 b) ∧ W.cell? ⟨w.heap.size, 2, none⟩ = some (.int .i64 c) ∧ W.cell? ⟨w.heap.size, 3, none⟩ = some (.int .i64 d) ∧ W.cell? ⟨w.heap.size, 4, none⟩ = some (.int .i64 e))) := fun W hW => ⟨HB5.out.trans (hW.mono HB5.out.size), keeps hW c1, (hW.frozen (p := ⟨g, off + k * 2 + 1, none⟩) hgs).trans f1, keeps hW t0, keeps hW t1, keeps hW t2, keeps hW t3, keeps hW t4⟩
        have SG : Hid (∀ W W', Below w5.heap.size w5 W → W.grownBy W' (Value.slice xq zs.length xc).ownBlock → (Below W4.heap.size W4 W' ∧ W'.cell? ⟨g, off + k * 2 + 1, none⟩ = some (.slice xq zs.length xc) ∧ W'.frozen? ⟨g, off + k * 2 + 1, none⟩ = false ∧ W'.cell? ⟨w.heap.size, 0, none⟩ = some (.int .i64 a) ∧ W'.cell? ⟨w.heap.size, 1, none⟩ = some (.int .i64 b) ∧ W'.cell? ⟨w.heap.size, 2, none⟩ = some (.int .i64 c) ∧ W'.cell? ⟨w.heap.size, 3, none⟩ = some (.int .i64 d) ∧ W'.cell? ⟨w.heap.size, 4, none⟩ = some (.int .i64 e))) := fun W W' hW hg => by
          have hBW : Below W4.heap.size W4 W := HB5.out.trans (hW.mono HB5.out.size)
          have hgW : g < W.heap.size := Nat.lt_of_lt_of_le hgs hW.size
          have hwW : w.heap.size < W.heap.size := Nat.lt_of_lt_of_le hs5 hW.size
          have hne : some g ≠ (Value.slice xq zs.length xc).ownBlock := fun e => hxg e.symm
          have hnw : some w.heap.size ≠ (Value.slice xq zs.length xc).ownBlock := fun e => by have := (hxlt _ e.symm).1; omega
          refine ⟨hBW.grown hg hBW.size (fun k hk => (hxlt k hk).1), ?_, ?_, ?_, ?_, ?_, ?_, ?_⟩
          · rw [hg.cell_far ⟨g, off + k * 2 + 1, none⟩ hgW hne]; exact keeps hW c1
          · rw [World.frozen?_of_block (hg.block g hgW hne)]; exact (hW.frozen (p := ⟨g, off + k * 2 + 1, none⟩) hgs).trans f1
          · rw [hg.cell_far ⟨w.heap.size, 0, none⟩ hwW hnw]; exact keeps hW t0
          · rw [hg.cell_far ⟨w.heap.size, 1, none⟩ hwW hnw]; exact keeps hW t1
          · rw [hg.cell_far ⟨w.heap.size, 2, none⟩ hwW hnw]; exact keeps hW t2
          · rw [hg.cell_far ⟨w.heap.size, 3, none⟩ hwW hnw]; exact keeps hW t3
          · rw [hg.cell_far ⟨w.heap.size, 4, none⟩ hwW hnw]; exact keeps hW t4
        have hszV : W4.heap.size ≤ w5.heap.size := HB5.out.size
        clear hB5 hxlt hxg
        go_upto_region 16 with fail
        go_region_law (refine step_append_mid _ rfl _ _ 32 rfl W4.heap.size 26 i0 zeroR 5 40 Tryz.underlying32 HI.out hz0 hz1 hz2 rfl (.slice xq zs.length xc) zs.length (flat zs) rfl (OwnM.below OV.out (by (repeat' (first | with_reducible assumption | with_reducible refine bal ?_ _ | with_reducible refine Below.setCell ?_ ?_ _ | with_reducible refine Below.drew ?_ | with_reducible exact Below.refl _ _ | with_reducible exact Nat.le_refl _ | with_reducible exact Below.size (by with_reducible assumption) | with_reducible refine Nat.le_succ_of_le ?_)))) _ 1 1 [.int .i64 a, .int .i64 b, .int .i64 c, .int .i64 d, .int .i64 e] rfl rfl (World.news_of_block (cs := #[.int .i64 a, .int .i64 b, .int .i64 c, .int .i64 d, .int .i64 e]) (heap_alloc_new _ _)) (by simp [Value.oneCell']) (by unfold maxLen; omega) (by omega) (Nat.le_trans hszV (Below.size (w := w5) (B := w5.heap.size) (by (repeat' (first | with_reducible assumption | with_reducible refine bal ?_ _ | with_reducible refine Below.setCell ?_ ?_ _ | with_reducible refine Below.drew ?_ | with_reducible exact Below.refl _ _ | with_reducible exact Nat.le_refl _ | with_reducible exact Below.size (by with_reducible assumption) | with_reducible refine Nat.le_succ_of_le ?_))))) ?_; intro v' w' hO' hgr hat; have hS1 := SG.out _ _ (by (repeat' (first | with_reducible assumption | with_reducible refine bal ?_ _ | with_reducible refine Below.setCell ?_ ?_ _ | with_reducible refine Below.drew ?_ | with_reducible exact Below.refl _ _ | with_reducible exact Nat.le_refl _ | with_reducible exact Below.size (by with_reducible assumption) | with_reducible refine Nat.le_succ_of_le ?_))) hgr; obtain ⟨q', c', rfl⟩ := OwnM.form hO'; have hPX := HDW.out _ _ _ _ (by (repeat' (first | with_reducible assumption | with_reducible refine bal ?_ _ | with_reducible refine Below.setCell ?_ ?_ _ | with_reducible refine Below.drew ?_ | with_reducible exact Below.refl _ _ | with_reducible exact Nat.le_refl _ | with_reducible exact Below.size (by with_reducible assumption) | with_reducible refine Nat.le_succ_of_le ?_))) hgr hO' hat; have hS9 := hS1; obtain ⟨hS2, hS3, hS4, -⟩ := hS1)
        all_goals
          go_wp2_with fail
          exact hPX

set_option maxRecDepth 100000 in
set_option maxHeartbeats 4000000 in
theorem add_ok (s : Int) (vq : Option Addr) (vm vc : Nat) (ls : List L) (p : Int) (a b c d e : Int) (w V0 : World) (hV0 : V0 = w.alloc (.cells #[.int .i64 a, .int .i64 b, .int .i64 c, .int .i64 d, .int .i64 e] 26)) (h : LS w (.slice vq vm vc) ls) (h0 : schk s ls = 0) :
    Calls Tryz.prog 48 #[.int .i64 s, .slice vq vm vc, .int .i64 p, .agg #[.int .i64 a, .int .i64 b, .int .i64 c, .int .i64 d, .int .i64 e]] w fun x w' => AddPost s ls p ⟨a, b, c, d, e⟩ w x w' := by
  have hB0 : Below w.heap.size w V0 := by rw [hV0]; exact (Below.refl _ _).alloc (Nat.le_refl _) _
  have hR0 : V0.heap[w.heap.size]? = some (.cells #[.int .i64 a, .int .i64 b, .int .i64 c, .int .i64 d, .int .i64 e] 26 (0, 0)) := by rw [hV0]; exact heap_alloc_new w _
  have hcon := places_any s _ ls V0 (h.below hB0)
  have HB0 : Hid (Below w.heap.size w V0) := hB0
  have HLS : Hid (∀ W, Below w.heap.size w W → LS W (.slice vq vm vc) ls) := fun W hW => h.below hW
  have x0 : V0.cell? ⟨w.heap.size, 0, none⟩ = some (.int .i64 a) := by simp [World.cell?, hR0]
  have x1 : V0.cell? ⟨w.heap.size, 1, none⟩ = some (.int .i64 b) := by simp [World.cell?, hR0]
  have x2 : V0.cell? ⟨w.heap.size, 2, none⟩ = some (.int .i64 c) := by simp [World.cell?, hR0]
  have x3 : V0.cell? ⟨w.heap.size, 3, none⟩ = some (.int .i64 d) := by simp [World.cell?, hR0]
  have x4 : V0.cell? ⟨w.heap.size, 4, none⟩ = some (.int .i64 e) := by simp [World.cell?, hR0]
  have HPL : Hid (∀ x w', PlacesPost s ls V0 x w' → Below V0.heap.size V0 w' ∧ ∃ B, x = .returned (.tuple #[.map (some B), .nilIface]) ∧ Own w' B (flatP 0 ls)) := fun x w' hp => by
    obtain ⟨h1, ⟨h2, _⟩ | ⟨_, B, _, h3, h4⟩⟩ := hp
    · exact absurd h0 h2
    · exact ⟨h1, B, h3, h4⟩
  have HPR := fun W hW => tprice_V V0 p W hW
  clear hB0 hR0 h
  cases hp : priceB p
  · rw [hp] at HPR
    simp only [show errB false = .iface 83 (.int .i64 1) from rfl] at HPR
    have HX : Hid (∀ W, Below w.heap.size w W → AddPost s ls p ⟨a, b, c, d, e⟩ w (.returned (.tuple #[.slice none 0 0, .iface 83 (.int .i64 1)])) W) := fun W hW => add_bad (by unfold addE; rw [if_pos h0, if_neg (by simp [hp])]) (by omega) hW
    generalize AddPost s ls p ⟨a, b, c, d, e⟩ w = POST at *
    clear h0 hp x0 x1 x2 x3 x4
    go_enter Tryz.func48, Tryz.ntmps48
    go_wp2_with fail
    rw [← hV0]
    refine hcon.mono ?_
    rintro x w1 hp
    obtain ⟨h1, B, rfl, hO⟩ := HPL.out _ _ hp
    have H1 : Hid (Below V0.heap.size V0 w1) := h1
    clear hcon HPL hp h1 hO
    go_wp2_with fail
    refine (HPR w1 H1.out).mono ?_
    rintro x w2 ⟨rfl, h2⟩
    have HXX := HX.out w2 (HB0.out.trans (h2.mono HB0.out.size))
    clear HPR h2 HX
    go_wp2_with fail
    exact HXX
  · rw [hp] at HPR
    simp only [show errB true = .nilIface from rfl] at HPR
    have HRE := fun W => rest_any a b c d e W
    by_cases hr : rchk ⟨a, b, c, d, e⟩ = 0
    · rw [hr, errV_zero] at HRE
      have hkey : keyOf Tryz.prog 3 (.int .i64 a) = some (.int .i64 a) := keyOf_int_mk Tryz.underlying3 (wf_id (r := ⟨a, b, c, d, e⟩) hr)
      exact add_in s vq vm vc ls p a b c d e w V0 hV0 HLS h0 hp hr hkey
    · rw [errV_of hr] at HRE
      have HX : Hid (∀ W, Below w.heap.size w W → AddPost s ls p ⟨a, b, c, d, e⟩ w (.returned (.tuple #[.slice none 0 0, .iface 83 (.int .i64 (rchk ⟨a, b, c, d, e⟩))])) W) := fun W hW => add_bad (by unfold addE; rw [if_pos h0, if_pos hp, if_neg hr]) hr hW
      generalize AddPost s ls p ⟨a, b, c, d, e⟩ w = POST at *
      generalize rchk ⟨a, b, c, d, e⟩ = k at *
      clear h0 hp hr
      go_enter Tryz.func48, Tryz.ntmps48
      go_wp2_with fail
      rw [← hV0]
      refine hcon.mono ?_
      rintro x w1 hp
      obtain ⟨h1, B, rfl, hO⟩ := HPL.out _ _ hp
      have H1 : Hid (Below V0.heap.size V0 w1) := h1
      clear hcon HPL hp h1 hO
      go_wp2_with fail
      refine (HPR w1 H1.out).mono ?_
      rintro x w2 ⟨rfl, h2⟩
      have H2 : Hid (Below V0.heap.size V0 w2) := h2
      have y0 := keeps h2 x0
      have y1 := keeps h2 x1
      have y2 := keeps h2 x2
      have y3 := keeps h2 x3
      have y4 := keeps h2 x4
      clear HPR h2 x0 x1 x2 x3 x4
      go_wp2_with fail
      refine (HRE w2).mono ?_
      rintro x w3 ⟨rfl, h3⟩
      have HXX := HX.out w3 (HB0.out.trans ((H2.out.trans (h3.mono H2.out.size)).mono HB0.out.size))
      clear HRE h3 HX y0 y1 y2 y3 y4
      go_wp2_with fail
      exact HXX

set_option maxRecDepth 100000 in
set_option maxHeartbeats 4000000 in
theorem add_any (s : Int) (v : Value) (ls : List L) (p : Int) (a b c d e : Int) (w : World) (h : LS w v ls) :
    Calls Tryz.prog 48 #[.int .i64 s, v, .int .i64 p, .agg #[.int .i64 a, .int .i64 b, .int .i64 c, .int .i64 d, .int .i64 e]] w fun x w' => AddPost s ls p ⟨a, b, c, d, e⟩ w x w' := by
  obtain ⟨V0, hV0⟩ : ∃ V0, V0 = w.alloc (.cells #[.int .i64 a, .int .i64 b, .int .i64 c, .int .i64 d, .int .i64 e] 26) := ⟨_, rfl⟩
  have hB0 : Below w.heap.size w V0 := by rw [hV0]; exact (Below.refl _ _).alloc (Nat.le_refl _) _
  obtain ⟨vq, vm, vc, rfl⟩ := ls_form h
  have hcon := places_any s _ ls V0 (h.below hB0)
  have HB0 : Hid (Below w.heap.size w V0) := hB0
  by_cases h0 : schk s ls = 0
  · exact add_ok s vq vm vc ls p a b c d e w V0 hV0 h h0
  · have HPL : Hid (∀ x w', PlacesPost s ls V0 x w' → Below V0.heap.size V0 w' ∧ x = .returned (.tuple #[.map none, .iface 83 (.int .i64 (schk s ls))])) := fun x w' hp => by
      obtain ⟨h1, ⟨_, h3⟩ | ⟨h2, _⟩⟩ := hp
      · rw [errV_of h0] at h3; exact ⟨h1, h3⟩
      · exact absurd h2 h0
    have HX : Hid (∀ W, Below w.heap.size w W → AddPost s ls p ⟨a, b, c, d, e⟩ w (.returned (.tuple #[.slice none 0 0, .iface 83 (.int .i64 (schk s ls))])) W) := fun W hW => add_bad (by unfold addE; rw [if_neg h0]) h0 hW
    generalize AddPost s ls p ⟨a, b, c, d, e⟩ w = POST at *
    generalize schk s ls = k at HPL HX
    clear h0 h hB0
    go_enter Tryz.func48, Tryz.ntmps48
    go_wp2_with fail
    rw [← hV0]
    refine hcon.mono ?_
    rintro x w1 hp
    obtain ⟨h1, rfl⟩ := HPL.out _ _ hp
    have HXX := HX.out w1 (HB0.out.trans (h1.mono HB0.out.size))
    clear hcon HPL hp h1 HX
    go_wp2_with fail
    exact HXX
end Go.Proofs.YtpbbgbjgndikdaaGreatDoor.sid
namespace Go.Proofs.YtpbbgbjgndikdaaGreatDoor.bok
open Go.RowKit Go.Proofs.YtpbbgbjgndikdaaGreatDoor.spn Go.Proofs.YtpbbgbjgndikdaaGreatDoor.que Go.Proofs.YtpbbgbjgndikdaaGreatDoor.sid

def zeroB : Value := .agg #[.slice none 0 0, .slice none 0 0]

/-- What 'with' answers. -/
def WiPost (s : Int) (bs ss ls : List L) (b0 : Nat) (w : World) (e : Ending) (w' : World) : Prop :=
  ∃ q1 q2 n1 n2 c1 c2, e = .returned (.agg #[.slice q1 n1 c1, .slice q2 n2 c2]) ∧ DL w' b0 (.slice q1 n1 c1) (if s = 1 then ls else bs) ∧ DL w' b0 (.slice q2 n2 c2) (if s = 1 then ss else ls) ∧ Below w.heap.size w w'
set_option maxRecDepth 100000 in
set_option maxHeartbeats 2000000 in
theorem with_any (s : Int) (q1 q2 q3 : Option Addr) (n1 n2 n3 c1 c2 c3 : Nat) (bs ss ls : List L) (b0 : Nat) (w : World) (h1 : LS w (.slice q1 n1 c1) bs) (h2 : LS w (.slice q2 n2 c2) ss) (h3 : DL w b0 (.slice q3 n3 c3) ls) (hb0 : b0 ≤ w.heap.size) (k1 : schk 1 bs = 0) (k2 : schk 2 ss = 0) :
    Calls Tryz.prog 50 #[.agg #[.slice q1 n1 c1, .slice q2 n2 c2], .int .i64 s, .slice q3 n3 c3] w fun e w' => WiPost s bs ss ls b0 w e w' := by
  have hlen : ∀ {t : Int} {xs : List L}, schk t xs = 0 → xs.length ≤ 1000 ∧ (∀ l ∈ xs, l.rests.length ≤ 1000) := fun {t xs} hk => by
    obtain ⟨-, z2, z3, -⟩ := schk_zero hk
    have := len_cnt (sgo_each z2)
    exact ⟨by omega, fun l hl => by have := rests_le hl; omega⟩
  have HF1 : Hid (∀ W, Below w.heap.size w W → Calls Tryz.prog 80 #[.slice q1 n1 c1] W fun e w' => FreshPost W bs e w') := fun W hW => fresh_any _ bs W (h1.below hW) (hlen k1).1 (hlen k1).2 (side_ne k1)
  have HF2 : Hid (∀ W, Below w.heap.size w W → Calls Tryz.prog 80 #[.slice q2 n2 c2] W fun e w' => FreshPost W ss e w') := fun W hW => fresh_any _ ss W (h2.below hW) (hlen k2).1 (hlen k2).2 (side_ne k2)
  have H3 : Hid (DL w b0 (.slice q3 n3 c3) ls) := h3
  obtain ⟨V, hV⟩ : ∃ V, V = (w.alloc (.cells #[.slice q1 n1 c1, .slice q2 n2 c2] 24)).alloc (.cells #[.slice none 0 0, .slice none 0 0] 24) := ⟨_, rfl⟩
  have HB : Hid (Below w.heap.size w V) := by rw [hV]; exact ((Below.refl _ _).alloc (Nat.le_refl _) _).alloc (by simp) _
  have v0 : V.cell? ⟨w.heap.size, 0, none⟩ = some (.slice q1 n1 c1) := by rw [hV]; simp [go_sem]
  have v1 : V.cell? ⟨w.heap.size, 1, none⟩ = some (.slice q2 n2 c2) := by rw [hV]; simp [go_sem]
  have hR : V.heap[w.heap.size + 1]? = some (.cells #[.slice none 0 0, .slice none 0 0] 24 (0, 0)) := by
    rw [hV]
    have := heap_alloc_new (w.alloc (.cells #[.slice q1 n1 c1, .slice q2 n2 c2] 24)) (.cells #[.slice none 0 0, .slice none 0 0] 24)
    simpa using this
  have hVs : w.heap.size + 1 < V.heap.size := (Array.getElem?_eq_some_iff.1 hR).1
  clear h1 h2 h3 k1 k2 hlen
  by_cases hs : s = 1
  · subst hs
    have HP : Hid (∀ W q m c, Below w.heap.size w W → DL W b0 (.slice q m c) ss → DL W b0 (.slice q3 n3 c3) ls → WiPost 1 bs ss ls b0 w (.returned (.agg #[.slice q3 n3 c3, .slice q m c])) W) := fun W q m c hW ha hb => ⟨q3, q, n3, m, c3, c, rfl, by rw [if_pos rfl]; exact hb, by rw [if_pos rfl]; exact ha, hW⟩
    generalize WiPost 1 bs ss ls b0 w = POST at *
    go_enter Tryz.func50, Tryz.ntmps50
    go_wp2_with fail
    rw [← hV]
    refine (HF2.out V HB.out).mono ?_
    rintro e w1 ⟨v', ps, rfl, hps, hD, b1⟩
    obtain ⟨q', c', hv'⟩ := OwnM.form hD.own
    generalize (ps.map (·.1) ++ ([] : List rlv.RL)).length = m' at hv'
    subst hv'
    have hB1 : Below w.heap.size w w1 := HB.out.trans (b1.mono HB.out.size)
    have hR1 : w1.heap[w.heap.size + 1]? = some (.cells #[.slice none 0 0, .slice none 0 0] 24 (0, 0)) := by rw [b1.block _ hVs]; exact hR
    obtain ⟨e0, e1, hf⟩ := rowTwo hR1
    have f0 := hf 0
    have f1 := hf 1
    have HX := setTwo hR1 (.slice q3 n3 c3) (.slice q' m' c')
    have hg := grTwo w1 (w.heap.size + 1) (.slice q3 n3 c3) (.slice q' m' c')
    have hD2 : DL _ b0 _ _ := ⟨ps, hps, (hD.other hg hVs).mono (Nat.le_trans hb0 HB.out.size)⟩
    have HPX := HP.out _ q' m' c' (hB1.grown hg hB1.size (fun k hk => by cases hk; omega)) hD2 (dl_grown H3.out hB1 hg (by omega))
    have HHX : Hid (((w1.setCell ⟨w.heap.size + 1, 0, none⟩ (.slice q3 n3 c3)).setCell ⟨w.heap.size + 1, 1, none⟩ (.slice q' m' c')).heap[w.heap.size + 1]? = some (.cells #[.slice q3 n3 c3, .slice q' m' c'] 24 (0, 0))) := HX
    clear hD hps hB1 hR1 hf HX hg hD2 HP HF1 HF2 b1 hR v0 v1
    go_wp2_with fail
    generalize (w1.setCell ⟨w.heap.size + 1, 0, none⟩ (.slice q3 n3 c3)).setCell ⟨w.heap.size + 1, 1, none⟩ (.slice q' m' c') = X at *
    obtain ⟨y0, y1, -⟩ := rowTwo HHX.out
    exact bodyPost_ret (v := .agg #[.slice q3 n3 c3, .slice q' m' c']) (by simp [results, Tryz.results50, go_sem, y0, y1]) rfl HPX
  · have hs1 : (s == 1) = false := by simpa using hs
    have HP : Hid (∀ W q m c, Below w.heap.size w W → DL W b0 (.slice q m c) bs → DL W b0 (.slice q3 n3 c3) ls → WiPost s bs ss ls b0 w (.returned (.agg #[.slice q m c, .slice q3 n3 c3])) W) := fun W q m c hW ha hb => ⟨q, q3, m, n3, c, c3, rfl, by rw [if_neg hs]; exact ha, by rw [if_neg hs]; exact hb, hW⟩
    generalize WiPost s bs ss ls b0 w = POST at *
    go_enter Tryz.func50, Tryz.ntmps50
    go_wp2_with fail
    rw [← hV]
    refine (HF1.out V HB.out).mono ?_
    rintro e w1 ⟨v', ps, rfl, hps, hD, b1⟩
    obtain ⟨q', c', hv'⟩ := OwnM.form hD.own
    generalize (ps.map (·.1) ++ ([] : List rlv.RL)).length = m' at hv'
    subst hv'
    have hB1 : Below w.heap.size w w1 := HB.out.trans (b1.mono HB.out.size)
    have hR1 : w1.heap[w.heap.size + 1]? = some (.cells #[.slice none 0 0, .slice none 0 0] 24 (0, 0)) := by rw [b1.block _ hVs]; exact hR
    obtain ⟨e0, e1, hf⟩ := rowTwo hR1
    have f0 := hf 0
    have f1 := hf 1
    have HX := setTwo hR1 (.slice q' m' c') (.slice q3 n3 c3)
    have hg := grTwo w1 (w.heap.size + 1) (.slice q' m' c') (.slice q3 n3 c3)
    have hD2 : DL _ b0 _ _ := ⟨ps, hps, (hD.other hg hVs).mono (Nat.le_trans hb0 HB.out.size)⟩
    have HPX := HP.out _ q' m' c' (hB1.grown hg hB1.size (fun k hk => by cases hk; omega)) hD2 (dl_grown H3.out hB1 hg (by omega))
    have HHX : Hid (((w1.setCell ⟨w.heap.size + 1, 0, none⟩ (.slice q' m' c')).setCell ⟨w.heap.size + 1, 1, none⟩ (.slice q3 n3 c3)).heap[w.heap.size + 1]? = some (.cells #[.slice q' m' c', .slice q3 n3 c3] 24 (0, 0))) := HX
    clear hD hps hB1 hR1 hf HX hg hD2 HP HF1 HF2 b1 hR v0 v1
    go_wp2_with fail
    generalize (w1.setCell ⟨w.heap.size + 1, 0, none⟩ (.slice q' m' c')).setCell ⟨w.heap.size + 1, 1, none⟩ (.slice q3 n3 c3) = X at *
    obtain ⟨y0, y1, -⟩ := rowTwo HHX.out
    exact bodyPost_ret (v := .agg #[.slice q' m' c', .slice q3 n3 c3]) (by simp [results, Tryz.results50, go_sem, y0, y1]) rfl HPX
end Go.Proofs.YtpbbgbjgndikdaaGreatDoor.bok
namespace Go.Proofs.YtpbbgbjgndikdaaGreatDoor.bok
open Go.RowKit Go.Proofs.YtpbbgbjgndikdaaGreatDoor.spn Go.Proofs.YtpbbgbjgndikdaaGreatDoor.que Go.Proofs.YtpbbgbjgndikdaaGreatDoor.sid

/-- A book with one more, and what is wrong with that. -/
def put1 (bs : List L) (s p : Int) (r : R) : List L := if s = 1 then putL s p r bs else bs
def put2 (ss : List L) (s p : Int) (r : R) : List L := if s = 1 then ss else putL s p r ss
def putE (bs ss : List L) (s p : Int) (r : R) : Int :=
  if bookE bs ss = 0 then (if addE s (if s = 1 then bs else ss) p r = 0 then bookE (put1 bs s p r) (put2 ss s p r) else addE s (if s = 1 then bs else ss) p r) else bookE bs ss
def PutPostD (bs ss : List L) (s p : Int) (r : R) (w : World) (e : Ending) (w' : World) : Prop :=
  ∃ q1 q2 n1 n2 c1 c2, e = .returned (.tuple #[.agg #[.slice q1 n1 c1, .slice q2 n2 c2], errV (putE bs ss s p r)]) ∧ DL w' w.heap.size (.slice q1 n1 c1) (if putE bs ss s p r = 0 then put1 bs s p r else []) ∧ DL w' w.heap.size (.slice q2 n2 c2) (if putE bs ss s p r = 0 then put2 ss s p r else []) ∧ Below w.heap.size w w'
theorem put_bad {bs ss : List L} {s p : Int} {r : R} {w W : World} {k : Int} (h : putE bs ss s p r = k) (hk : ¬ k = 0) (hW : Below w.heap.size w W) : PutPostD bs ss s p r w (.returned (.tuple #[.agg #[.slice none 0 0, .slice none 0 0], .iface 83 (.int .i64 k)])) W :=
  ⟨none, none, 0, 0, 0, 0, by rw [h, errV_of hk], by rw [h, if_neg hk]; exact dl_nil _ _, by rw [h, if_neg hk]; exact dl_nil _ _, hW⟩

set_option maxRecDepth 100000 in
set_option maxHeartbeats 2000000 in
theorem put_book (s p : Int) (q1 q2 : Option Addr) (n1 n2 c1 c2 : Nat) (a b c d e : Int) (bs ss : List L) (w : World) (h1 : LS w (.slice q1 n1 c1) bs) (h2 : LS w (.slice q2 n2 c2) ss) (h0 : ¬ bookE bs ss = 0) :
    Calls Tryz.prog 16 #[.agg #[.slice q1 n1 c1, .slice q2 n2 c2], .int .i64 s, .int .i64 p, .agg #[.int .i64 a, .int .i64 b, .int .i64 c, .int .i64 d, .int .i64 e]] w fun x w' => PutPostD bs ss s p ⟨a, b, c, d, e⟩ w x w' := by
  have HCH := fun W (hW : Below w.heap.size w W) => check_any q1 q2 n1 n2 c1 c2 bs ss W (h1.below hW) (h2.below hW)
  rw [errV_of h0] at HCH
  have HERR : Hid (∀ W, Below w.heap.size w W → PutPostD bs ss s p ⟨a, b, c, d, e⟩ w (.returned (.tuple #[.agg #[.slice none 0 0, .slice none 0 0], .iface 83 (.int .i64 (bookE bs ss))])) W) := fun W hW => put_bad (by unfold putE; rw [if_neg h0]) h0 hW
  obtain ⟨V, hV⟩ : ∃ V, V = ((w.alloc (.cells #[.slice q1 n1 c1, .slice q2 n2 c2] 24)).alloc (.cells #[.int .i64 a, .int .i64 b, .int .i64 c, .int .i64 d, .int .i64 e] 26)).alloc (.cells #[.slice none 0 0, .slice none 0 0] 24) := ⟨_, rfl⟩
  have HB : Hid (Below w.heap.size w V) := by rw [hV]; exact (((Below.refl _ _).alloc (Nat.le_refl _) _).alloc (by simp) _).alloc (by simp; omega) _
  have v0 : V.cell? ⟨w.heap.size, 0, none⟩ = some (.slice q1 n1 c1) := by rw [hV]; simp [go_sem]
  have v1 : V.cell? ⟨w.heap.size, 1, none⟩ = some (.slice q2 n2 c2) := by rw [hV]; simp [go_sem]
  have r0 : V.cell? ⟨w.heap.size + 1, 0, none⟩ = some (.int .i64 a) := by rw [hV]; simp [go_sem]
  have r1 : V.cell? ⟨w.heap.size + 1, 1, none⟩ = some (.int .i64 b) := by rw [hV]; simp [go_sem]
  have r2 : V.cell? ⟨w.heap.size + 1, 2, none⟩ = some (.int .i64 c) := by rw [hV]; simp [go_sem]
  have r3 : V.cell? ⟨w.heap.size + 1, 3, none⟩ = some (.int .i64 d) := by rw [hV]; simp [go_sem]
  have r4 : V.cell? ⟨w.heap.size + 1, 4, none⟩ = some (.int .i64 e) := by rw [hV]; simp [go_sem]
  have hR : V.heap[w.heap.size + 2]? = some (.cells #[.slice none 0 0, .slice none 0 0] 24 (0, 0)) := by
    rw [hV]
    have := heap_alloc_new ((w.alloc (.cells #[.slice q1 n1 c1, .slice q2 n2 c2] 24)).alloc (.cells #[.int .i64 a, .int .i64 b, .int .i64 c, .int .i64 d, .int .i64 e] 26)) (.cells #[.slice none 0 0, .slice none 0 0] 24)
    simpa using this
  have hVs : w.heap.size + 2 < V.heap.size := (Array.getElem?_eq_some_iff.1 hR).1
  generalize PutPostD bs ss s p ⟨a, b, c, d, e⟩ w = POST at *
  generalize bookE bs ss = k at *
  clear h0 h1 h2 r0 r1 r2 r3 r4
  go_enter Tryz.func16, Tryz.ntmps16
  go_wp2_with fail
  rw [← hV]
  refine (HCH V HB.out).mono ?_
  rintro x w1 ⟨rfl, b1⟩
  have HBW : Hid (Below w.heap.size w w1) := HB.out.trans (b1.mono HB.out.size)
  have hRW : w1.heap[w.heap.size + 2]? = some (.cells #[.slice none 0 0, .slice none 0 0] 24 (0, 0)) := by rw [b1.block _ hVs]; exact hR
  clear b1 HCH v0 v1 hR
  obtain ⟨g0, g1, hf⟩ := rowTwo hRW
  have f0 := hf 0
  have f1 := hf 1
  have hg := grTwo w1 (w.heap.size + 2) (.slice none 0 0) (.slice none 0 0)
  have HPX := HERR.out _ (HBW.out.grown hg HBW.out.size (fun k hk => by cases hk; omega))
  have HHX : Hid (((w1.setCell ⟨w.heap.size + 2, 0, none⟩ (.slice none 0 0)).setCell ⟨w.heap.size + 2, 1, none⟩ (.slice none 0 0)).heap[w.heap.size + 2]? = some (.cells #[.slice none 0 0, .slice none 0 0] 24 (0, 0))) := setTwo hRW (.slice none 0 0) (.slice none 0 0)
  clear hf hg HERR hRW
  go_wp2_with fail
  generalize ((w1.setCell ⟨w.heap.size + 2, 0, none⟩ (.slice none 0 0)).setCell ⟨w.heap.size + 2, 1, none⟩ (.slice none 0 0)) = X at *
  obtain ⟨y0, y1, -⟩ := rowTwo HHX.out
  exact bodyPost_ret (v := .tuple #[.agg #[.slice none 0 0, .slice none 0 0], .iface 83 (.int .i64 k)]) (by simp [results, Tryz.results16, go_sem, y0, y1]) rfl HPX

set_option maxRecDepth 100000 in
set_option maxHeartbeats 2000000 in
theorem put_add1 (p : Int) (q1 q2 : Option Addr) (n1 n2 c1 c2 : Nat) (a b c d e : Int) (bs ss : List L) (w : World) (h1 : LS w (.slice q1 n1 c1) bs) (h2 : LS w (.slice q2 n2 c2) ss)  (h0 : bookE bs ss = 0) (ha : ¬ addE 1 bs p ⟨a, b, c, d, e⟩ = 0) :
    Calls Tryz.prog 16 #[.agg #[.slice q1 n1 c1, .slice q2 n2 c2], .int .i64 1, .int .i64 p, .agg #[.int .i64 a, .int .i64 b, .int .i64 c, .int .i64 d, .int .i64 e]] w fun x w' => PutPostD bs ss 1 p ⟨a, b, c, d, e⟩ w x w' := by
  have HCH := fun W (hW : Below w.heap.size w W) => check_any q1 q2 n1 n2 c1 c2 bs ss W (h1.below hW) (h2.below hW)
  rw [h0, errV_zero] at HCH
  have HERR : Hid (∀ W, Below w.heap.size w W → PutPostD bs ss 1 p ⟨a, b, c, d, e⟩ w (.returned (.tuple #[.agg #[.slice none 0 0, .slice none 0 0], .iface 83 (.int .i64 (addE 1 bs p ⟨a, b, c, d, e⟩))])) W) := fun W hW => put_bad (by unfold putE; rw [if_pos h0, if_pos rfl, if_neg ha]) ha hW
  obtain ⟨AL, hAL⟩ : ∃ AL, AL = addL 1 bs p ⟨a, b, c, d, e⟩ := ⟨_, rfl⟩
  have HAD : Hid (∀ W, Below w.heap.size w W → Calls Tryz.prog 48 #[.int .i64 1, .slice q1 n1 c1, .int .i64 p, .agg #[.int .i64 a, .int .i64 b, .int .i64 c, .int .i64 d, .int .i64 e]] W fun x w' => Below W.heap.size W w' ∧ ∃ q n cc, x = .returned (.tuple #[.slice q n cc, .iface 83 (.int .i64 (addE 1 bs p ⟨a, b, c, d, e⟩))]) ∧ LS w' (.slice q n cc) AL) := fun W hW => (add_any 1 _ bs p a b c d e W (h1.below hW)).mono fun x w' h => by
    obtain ⟨g1, v', g2, g3⟩ := h
    rw [errV_of ha] at g2
    obtain ⟨q, n, cc, rfl⟩ := g3.form
    exact ⟨g1, q, n, cc, g2, by rw [hAL]; exact g3.ls⟩
  obtain ⟨V, hV⟩ : ∃ V, V = ((w.alloc (.cells #[.slice q1 n1 c1, .slice q2 n2 c2] 24)).alloc (.cells #[.int .i64 a, .int .i64 b, .int .i64 c, .int .i64 d, .int .i64 e] 26)).alloc (.cells #[.slice none 0 0, .slice none 0 0] 24) := ⟨_, rfl⟩
  have HB : Hid (Below w.heap.size w V) := by rw [hV]; exact (((Below.refl _ _).alloc (Nat.le_refl _) _).alloc (by simp) _).alloc (by simp; omega) _
  have v0 : V.cell? ⟨w.heap.size, 0, none⟩ = some (.slice q1 n1 c1) := by rw [hV]; simp [go_sem]
  have v1 : V.cell? ⟨w.heap.size, 1, none⟩ = some (.slice q2 n2 c2) := by rw [hV]; simp [go_sem]
  have r0 : V.cell? ⟨w.heap.size + 1, 0, none⟩ = some (.int .i64 a) := by rw [hV]; simp [go_sem]
  have r1 : V.cell? ⟨w.heap.size + 1, 1, none⟩ = some (.int .i64 b) := by rw [hV]; simp [go_sem]
  have r2 : V.cell? ⟨w.heap.size + 1, 2, none⟩ = some (.int .i64 c) := by rw [hV]; simp [go_sem]
  have r3 : V.cell? ⟨w.heap.size + 1, 3, none⟩ = some (.int .i64 d) := by rw [hV]; simp [go_sem]
  have r4 : V.cell? ⟨w.heap.size + 1, 4, none⟩ = some (.int .i64 e) := by rw [hV]; simp [go_sem]
  have hR : V.heap[w.heap.size + 2]? = some (.cells #[.slice none 0 0, .slice none 0 0] 24 (0, 0)) := by
    rw [hV]
    have := heap_alloc_new ((w.alloc (.cells #[.slice q1 n1 c1, .slice q2 n2 c2] 24)).alloc (.cells #[.int .i64 a, .int .i64 b, .int .i64 c, .int .i64 d, .int .i64 e] 26)) (.cells #[.slice none 0 0, .slice none 0 0] 24)
    simpa using this
  have hVs : w.heap.size + 2 < V.heap.size := (Array.getElem?_eq_some_iff.1 hR).1
  generalize PutPostD bs ss 1 p ⟨a, b, c, d, e⟩ w = POST at *
  generalize addE 1 bs p ⟨a, b, c, d, e⟩ = k at *
  clear h0 h1 h2 ha hAL
  go_enter Tryz.func16, Tryz.ntmps16
  go_wp2_with fail
  rw [← hV]
  refine (HCH V HB.out).mono ?_
  rintro x w1 ⟨rfl, b1⟩
  have HB1 : Hid (Below w.heap.size w w1) := HB.out.trans (b1.mono HB.out.size)
  have hR1 : w1.heap[w.heap.size + 2]? = some (.cells #[.slice none 0 0, .slice none 0 0] 24 (0, 0)) := by rw [b1.block _ hVs]; exact hR
  have x0 := keeps b1 v0
  have x1 := keeps b1 v1
  have y0 := keeps b1 r0
  have y1 := keeps b1 r1
  have y2 := keeps b1 r2
  have y3 := keeps b1 r3
  have y4 := keeps b1 r4
  have hs1 : w.heap.size + 2 < w1.heap.size := Nat.lt_of_lt_of_le hVs b1.size
  have HLV : Hid (∀ W, Below w1.heap.size w1 W → Calls Tryz.prog 49 #[.agg #[.slice q1 n1 c1, .slice q2 n2 c2], .int .i64 1] W fun e w' => e = .returned (.slice q1 n1 c1) ∧ Below w1.heap.size w1 w') := fun W hW => by
    have := levels_any 1 q1 q2 n1 n2 c1 c2 W
    rw [if_pos rfl] at this
    exact this.mono fun e w' h => ⟨h.1, hW.trans (h.2.mono hW.size)⟩
  have HAD2 : Hid (∀ W, Below w1.heap.size w1 W → Calls Tryz.prog 48 #[.int .i64 1, .slice q1 n1 c1, .int .i64 p, .agg #[.int .i64 a, .int .i64 b, .int .i64 c, .int .i64 d, .int .i64 e]] W fun x w' => Below w1.heap.size w1 w' ∧ ∃ q n cc, x = .returned (.tuple #[.slice q n cc, .iface 83 (.int .i64 k)]) ∧ LS w' (.slice q n cc) AL) := fun W hW => (HAD.out W (HB1.out.trans (hW.mono HB1.out.size))).mono fun x w' h => ⟨hW.trans (h.1.mono hW.size), h.2⟩
  have SO : Hid (∀ W, Below w1.heap.size w1 W → (Below w1.heap.size w1 W ∧ W.cell? ⟨w.heap.size, 0, none⟩ = some (.slice q1 n1 c1) ∧ W.cell? ⟨w.heap.size, 1, none⟩ = some (.slice q2 n2 c2) ∧ W.cell? ⟨w.heap.size + 1, 0, none⟩ = some (.int .i64 a) ∧ W.cell? ⟨w.heap.size + 1, 1, none⟩ = some (.int .i64 b) ∧ W.cell? ⟨w.heap.size + 1, 2, none⟩ = some (.int .i64 c) ∧ W.cell? ⟨w.heap.size + 1, 3, none⟩ = some (.int .i64 d) ∧ W.cell? ⟨w.heap.size + 1, 4, none⟩ = some (.int .i64 e))) := fun W hW => ⟨hW, keeps hW x0, keeps hW x1, keeps hW y0, keeps hW y1, keeps hW y2, keeps hW y3, keeps hW y4⟩
  clear b1 HCH v0 v1 r0 r1 r2 r3 r4 hR HAD
  go_upto_region 4 with fail
  go_region_held3 (fun W => Below w1.heap.size w1 W ∧ W.cell? ⟨w.heap.size, 0, none⟩ = some (.slice q1 n1 c1) ∧ W.cell? ⟨w.heap.size, 1, none⟩ = some (.slice q2 n2 c2) ∧ W.cell? ⟨w.heap.size + 1, 0, none⟩ = some (.int .i64 a) ∧ W.cell? ⟨w.heap.size + 1, 1, none⟩ = some (.int .i64 b) ∧ W.cell? ⟨w.heap.size + 1, 2, none⟩ = some (.int .i64 c) ∧ W.cell? ⟨w.heap.size + 1, 3, none⟩ = some (.int .i64 d) ∧ W.cell? ⟨w.heap.size + 1, 4, none⟩ = some (.int .i64 e))
    ((refine SO.out _ ?_; (repeat' (first | with_reducible assumption | with_reducible refine bal ?_ _ | with_reducible refine Below.setCell ?_ ?_ _ | with_reducible refine Below.drew ?_ | with_reducible exact Below.refl _ _ | with_reducible exact Nat.le_refl _ | with_reducible exact Below.size (by with_reducible assumption) | with_reducible refine Nat.le_succ_of_le ?_))))
    (first | (go_at_call 49; with_reducible refine (HLV.out _ ?_).mono ?_; (repeat' (first | with_reducible assumption | with_reducible refine bal ?_ _ | with_reducible refine Below.setCell ?_ ?_ _ | with_reducible refine Below.drew ?_ | with_reducible exact Below.refl _ _ | with_reducible exact Nat.le_refl _ | with_reducible exact Below.size (by with_reducible assumption) | with_reducible refine Nat.le_succ_of_le ?_)); rintro x W ⟨rfl, hbn⟩) | (go_at_call 48; with_reducible refine (HAD2.out _ ?_).mono ?_; (repeat' (first | with_reducible assumption | with_reducible refine bal ?_ _ | with_reducible refine Below.setCell ?_ ?_ _ | with_reducible refine Below.drew ?_ | with_reducible exact Below.refl _ _ | with_reducible exact Nat.le_refl _ | with_reducible exact Below.size (by with_reducible assumption) | with_reducible refine Nat.le_succ_of_le ?_)); rintro x W ⟨hbn, q3, n3, c3, rfl, hL3⟩))
  have HBW : Hid (Below w.heap.size w W) := HB1.out.trans (hbn.mono HB1.out.size)
  have hRW : W.heap[w.heap.size + 2]? = some (.cells #[.slice none 0 0, .slice none 0 0] 24 (0, 0)) := by rw [hbn.block _ hs1]; exact hR1
  clear hbn hL3 SO HLV HAD2 x0 x1 y0 y1 y2 y3 y4 hR1
  obtain ⟨g0, g1, hf⟩ := rowTwo hRW
  have f0 := hf 0
  have f1 := hf 1
  have hg := grTwo W (w.heap.size + 2) (.slice none 0 0) (.slice none 0 0)
  have HPX := HERR.out _ (HBW.out.grown hg HBW.out.size (fun k hk => by cases hk; omega))
  have HHX : Hid (((W.setCell ⟨w.heap.size + 2, 0, none⟩ (.slice none 0 0)).setCell ⟨w.heap.size + 2, 1, none⟩ (.slice none 0 0)).heap[w.heap.size + 2]? = some (.cells #[.slice none 0 0, .slice none 0 0] 24 (0, 0))) := setTwo hRW (.slice none 0 0) (.slice none 0 0)
  clear hf hg HERR hRW
  go_wp2_with fail
  generalize ((W.setCell ⟨w.heap.size + 2, 0, none⟩ (.slice none 0 0)).setCell ⟨w.heap.size + 2, 1, none⟩ (.slice none 0 0)) = X at *
  obtain ⟨y0, y1, -⟩ := rowTwo HHX.out
  exact bodyPost_ret (v := .tuple #[.agg #[.slice none 0 0, .slice none 0 0], .iface 83 (.int .i64 k)]) (by simp [results, Tryz.results16, go_sem, y0, y1]) rfl HPX

set_option maxRecDepth 100000 in
set_option maxHeartbeats 2000000 in
theorem put_add2 (s p : Int) (q1 q2 : Option Addr) (n1 n2 c1 c2 : Nat) (a b c d e : Int) (bs ss : List L) (w : World) (h1 : LS w (.slice q1 n1 c1) bs) (h2 : LS w (.slice q2 n2 c2) ss) (hs : ¬ s = 1) (h0 : bookE bs ss = 0) (ha : ¬ addE s ss p ⟨a, b, c, d, e⟩ = 0) :
    Calls Tryz.prog 16 #[.agg #[.slice q1 n1 c1, .slice q2 n2 c2], .int .i64 s, .int .i64 p, .agg #[.int .i64 a, .int .i64 b, .int .i64 c, .int .i64 d, .int .i64 e]] w fun x w' => PutPostD bs ss s p ⟨a, b, c, d, e⟩ w x w' := by
  have HCH := fun W (hW : Below w.heap.size w W) => check_any q1 q2 n1 n2 c1 c2 bs ss W (h1.below hW) (h2.below hW)
  rw [h0, errV_zero] at HCH
  have HERR : Hid (∀ W, Below w.heap.size w W → PutPostD bs ss s p ⟨a, b, c, d, e⟩ w (.returned (.tuple #[.agg #[.slice none 0 0, .slice none 0 0], .iface 83 (.int .i64 (addE s ss p ⟨a, b, c, d, e⟩))])) W) := fun W hW => put_bad (by unfold putE; rw [if_pos h0, if_neg hs, if_neg ha]) ha hW
  obtain ⟨AL, hAL⟩ : ∃ AL, AL = addL s ss p ⟨a, b, c, d, e⟩ := ⟨_, rfl⟩
  have HAD : Hid (∀ W, Below w.heap.size w W → Calls Tryz.prog 48 #[.int .i64 s, .slice q2 n2 c2, .int .i64 p, .agg #[.int .i64 a, .int .i64 b, .int .i64 c, .int .i64 d, .int .i64 e]] W fun x w' => Below W.heap.size W w' ∧ ∃ q n cc, x = .returned (.tuple #[.slice q n cc, .iface 83 (.int .i64 (addE s ss p ⟨a, b, c, d, e⟩))]) ∧ LS w' (.slice q n cc) AL) := fun W hW => (add_any s _ ss p a b c d e W (h2.below hW)).mono fun x w' h => by
    obtain ⟨g1, v', g2, g3⟩ := h
    rw [errV_of ha] at g2
    obtain ⟨q, n, cc, rfl⟩ := g3.form
    exact ⟨g1, q, n, cc, g2, by rw [hAL]; exact g3.ls⟩
  obtain ⟨V, hV⟩ : ∃ V, V = ((w.alloc (.cells #[.slice q1 n1 c1, .slice q2 n2 c2] 24)).alloc (.cells #[.int .i64 a, .int .i64 b, .int .i64 c, .int .i64 d, .int .i64 e] 26)).alloc (.cells #[.slice none 0 0, .slice none 0 0] 24) := ⟨_, rfl⟩
  have HB : Hid (Below w.heap.size w V) := by rw [hV]; exact (((Below.refl _ _).alloc (Nat.le_refl _) _).alloc (by simp) _).alloc (by simp; omega) _
  have v0 : V.cell? ⟨w.heap.size, 0, none⟩ = some (.slice q1 n1 c1) := by rw [hV]; simp [go_sem]
  have v1 : V.cell? ⟨w.heap.size, 1, none⟩ = some (.slice q2 n2 c2) := by rw [hV]; simp [go_sem]
  have r0 : V.cell? ⟨w.heap.size + 1, 0, none⟩ = some (.int .i64 a) := by rw [hV]; simp [go_sem]
  have r1 : V.cell? ⟨w.heap.size + 1, 1, none⟩ = some (.int .i64 b) := by rw [hV]; simp [go_sem]
  have r2 : V.cell? ⟨w.heap.size + 1, 2, none⟩ = some (.int .i64 c) := by rw [hV]; simp [go_sem]
  have r3 : V.cell? ⟨w.heap.size + 1, 3, none⟩ = some (.int .i64 d) := by rw [hV]; simp [go_sem]
  have r4 : V.cell? ⟨w.heap.size + 1, 4, none⟩ = some (.int .i64 e) := by rw [hV]; simp [go_sem]
  have hR : V.heap[w.heap.size + 2]? = some (.cells #[.slice none 0 0, .slice none 0 0] 24 (0, 0)) := by
    rw [hV]
    have := heap_alloc_new ((w.alloc (.cells #[.slice q1 n1 c1, .slice q2 n2 c2] 24)).alloc (.cells #[.int .i64 a, .int .i64 b, .int .i64 c, .int .i64 d, .int .i64 e] 26)) (.cells #[.slice none 0 0, .slice none 0 0] 24)
    simpa using this
  have hVs : w.heap.size + 2 < V.heap.size := (Array.getElem?_eq_some_iff.1 hR).1
  generalize PutPostD bs ss s p ⟨a, b, c, d, e⟩ w = POST at *
  generalize addE s ss p ⟨a, b, c, d, e⟩ = k at *
  clear h0 h1 h2 ha hAL
  go_enter Tryz.func16, Tryz.ntmps16
  go_wp2_with fail
  rw [← hV]
  refine (HCH V HB.out).mono ?_
  rintro x w1 ⟨rfl, b1⟩
  have HB1 : Hid (Below w.heap.size w w1) := HB.out.trans (b1.mono HB.out.size)
  have hR1 : w1.heap[w.heap.size + 2]? = some (.cells #[.slice none 0 0, .slice none 0 0] 24 (0, 0)) := by rw [b1.block _ hVs]; exact hR
  have x0 := keeps b1 v0
  have x1 := keeps b1 v1
  have y0 := keeps b1 r0
  have y1 := keeps b1 r1
  have y2 := keeps b1 r2
  have y3 := keeps b1 r3
  have y4 := keeps b1 r4
  have hs1 : w.heap.size + 2 < w1.heap.size := Nat.lt_of_lt_of_le hVs b1.size
  have HLV : Hid (∀ W, Below w1.heap.size w1 W → Calls Tryz.prog 49 #[.agg #[.slice q1 n1 c1, .slice q2 n2 c2], .int .i64 s] W fun e w' => e = .returned (.slice q2 n2 c2) ∧ Below w1.heap.size w1 w') := fun W hW => by
    have := levels_any s q1 q2 n1 n2 c1 c2 W
    rw [if_neg hs] at this
    exact this.mono fun e w' h => ⟨h.1, hW.trans (h.2.mono hW.size)⟩
  have HAD2 : Hid (∀ W, Below w1.heap.size w1 W → Calls Tryz.prog 48 #[.int .i64 s, .slice q2 n2 c2, .int .i64 p, .agg #[.int .i64 a, .int .i64 b, .int .i64 c, .int .i64 d, .int .i64 e]] W fun x w' => Below w1.heap.size w1 w' ∧ ∃ q n cc, x = .returned (.tuple #[.slice q n cc, .iface 83 (.int .i64 k)]) ∧ LS w' (.slice q n cc) AL) := fun W hW => (HAD.out W (HB1.out.trans (hW.mono HB1.out.size))).mono fun x w' h => ⟨hW.trans (h.1.mono hW.size), h.2⟩
  have SO : Hid (∀ W, Below w1.heap.size w1 W → (Below w1.heap.size w1 W ∧ W.cell? ⟨w.heap.size, 0, none⟩ = some (.slice q1 n1 c1) ∧ W.cell? ⟨w.heap.size, 1, none⟩ = some (.slice q2 n2 c2) ∧ W.cell? ⟨w.heap.size + 1, 0, none⟩ = some (.int .i64 a) ∧ W.cell? ⟨w.heap.size + 1, 1, none⟩ = some (.int .i64 b) ∧ W.cell? ⟨w.heap.size + 1, 2, none⟩ = some (.int .i64 c) ∧ W.cell? ⟨w.heap.size + 1, 3, none⟩ = some (.int .i64 d) ∧ W.cell? ⟨w.heap.size + 1, 4, none⟩ = some (.int .i64 e))) := fun W hW => ⟨hW, keeps hW x0, keeps hW x1, keeps hW y0, keeps hW y1, keeps hW y2, keeps hW y3, keeps hW y4⟩
  clear b1 HCH v0 v1 r0 r1 r2 r3 r4 hR HAD
  go_upto_region 4 with fail
  go_region_held3 (fun W => Below w1.heap.size w1 W ∧ W.cell? ⟨w.heap.size, 0, none⟩ = some (.slice q1 n1 c1) ∧ W.cell? ⟨w.heap.size, 1, none⟩ = some (.slice q2 n2 c2) ∧ W.cell? ⟨w.heap.size + 1, 0, none⟩ = some (.int .i64 a) ∧ W.cell? ⟨w.heap.size + 1, 1, none⟩ = some (.int .i64 b) ∧ W.cell? ⟨w.heap.size + 1, 2, none⟩ = some (.int .i64 c) ∧ W.cell? ⟨w.heap.size + 1, 3, none⟩ = some (.int .i64 d) ∧ W.cell? ⟨w.heap.size + 1, 4, none⟩ = some (.int .i64 e))
    ((refine SO.out _ ?_; (repeat' (first | with_reducible assumption | with_reducible refine bal ?_ _ | with_reducible refine Below.setCell ?_ ?_ _ | with_reducible refine Below.drew ?_ | with_reducible exact Below.refl _ _ | with_reducible exact Nat.le_refl _ | with_reducible exact Below.size (by with_reducible assumption) | with_reducible refine Nat.le_succ_of_le ?_))))
    (first | (go_at_call 49; with_reducible refine (HLV.out _ ?_).mono ?_; (repeat' (first | with_reducible assumption | with_reducible refine bal ?_ _ | with_reducible refine Below.setCell ?_ ?_ _ | with_reducible refine Below.drew ?_ | with_reducible exact Below.refl _ _ | with_reducible exact Nat.le_refl _ | with_reducible exact Below.size (by with_reducible assumption) | with_reducible refine Nat.le_succ_of_le ?_)); rintro x W ⟨rfl, hbn⟩) | (go_at_call 48; with_reducible refine (HAD2.out _ ?_).mono ?_; (repeat' (first | with_reducible assumption | with_reducible refine bal ?_ _ | with_reducible refine Below.setCell ?_ ?_ _ | with_reducible refine Below.drew ?_ | with_reducible exact Below.refl _ _ | with_reducible exact Nat.le_refl _ | with_reducible exact Below.size (by with_reducible assumption) | with_reducible refine Nat.le_succ_of_le ?_)); rintro x W ⟨hbn, q3, n3, c3, rfl, hL3⟩))
  have HBW : Hid (Below w.heap.size w W) := HB1.out.trans (hbn.mono HB1.out.size)
  have hRW : W.heap[w.heap.size + 2]? = some (.cells #[.slice none 0 0, .slice none 0 0] 24 (0, 0)) := by rw [hbn.block _ hs1]; exact hR1
  clear hbn hL3 SO HLV HAD2 x0 x1 y0 y1 y2 y3 y4 hR1
  obtain ⟨g0, g1, hf⟩ := rowTwo hRW
  have f0 := hf 0
  have f1 := hf 1
  have hg := grTwo W (w.heap.size + 2) (.slice none 0 0) (.slice none 0 0)
  have HPX := HERR.out _ (HBW.out.grown hg HBW.out.size (fun k hk => by cases hk; omega))
  have HHX : Hid (((W.setCell ⟨w.heap.size + 2, 0, none⟩ (.slice none 0 0)).setCell ⟨w.heap.size + 2, 1, none⟩ (.slice none 0 0)).heap[w.heap.size + 2]? = some (.cells #[.slice none 0 0, .slice none 0 0] 24 (0, 0))) := setTwo hRW (.slice none 0 0) (.slice none 0 0)
  clear hf hg HERR hRW
  go_wp2_with fail
  generalize ((W.setCell ⟨w.heap.size + 2, 0, none⟩ (.slice none 0 0)).setCell ⟨w.heap.size + 2, 1, none⟩ (.slice none 0 0)) = X at *
  obtain ⟨y0, y1, -⟩ := rowTwo HHX.out
  exact bodyPost_ret (v := .tuple #[.agg #[.slice none 0 0, .slice none 0 0], .iface 83 (.int .i64 k)]) (by simp [results, Tryz.results16, go_sem, y0, y1]) rfl HPX
end Go.Proofs.YtpbbgbjgndikdaaGreatDoor.bok
namespace Go.Proofs.YtpbbgbjgndikdaaGreatDoor.bok
open Go.RowKit Go.Proofs.YtpbbgbjgndikdaaGreatDoor.spn Go.Proofs.YtpbbgbjgndikdaaGreatDoor.que Go.Proofs.YtpbbgbjgndikdaaGreatDoor.sid

set_option maxRecDepth 100000 in
set_option maxHeartbeats 2000000 in
theorem put_err1 (p : Int) (q1 q2 : Option Addr) (n1 n2 c1 c2 : Nat) (a b c d e : Int) (bs ss : List L) (w : World) (h1 : LS w (.slice q1 n1 c1) bs) (h2 : LS w (.slice q2 n2 c2) ss)  (h0 : bookE bs ss = 0) (ha : addE 1 bs p ⟨a, b, c, d, e⟩ = 0) (hb : ¬ bookE (putL 1 p ⟨a, b, c, d, e⟩ bs) (ss) = 0) :
    Calls Tryz.prog 16 #[.agg #[.slice q1 n1 c1, .slice q2 n2 c2], .int .i64 1, .int .i64 p, .agg #[.int .i64 a, .int .i64 b, .int .i64 c, .int .i64 d, .int .i64 e]] w fun x w' => PutPostD bs ss 1 p ⟨a, b, c, d, e⟩ w x w' := by
  have HCH := fun W (hW : Below w.heap.size w W) => check_any q1 q2 n1 n2 c1 c2 bs ss W (h1.below hW) (h2.below hW)
  rw [h0, errV_zero] at HCH
  have hP1 : put1 bs 1 p ⟨a, b, c, d, e⟩ = putL 1 p ⟨a, b, c, d, e⟩ bs := by unfold put1; rw [if_pos rfl]
  have hP2 : put2 ss 1 p ⟨a, b, c, d, e⟩ = ss := by unfold put2; rw [if_pos rfl]
  have hE : putE bs ss 1 p ⟨a, b, c, d, e⟩ = bookE (putL 1 p ⟨a, b, c, d, e⟩ bs) (ss) := by unfold putE; rw [if_pos h0, if_pos rfl, if_pos ha, hP1, hP2]
  obtain ⟨AL, hAL⟩ : ∃ AL, AL = putL 1 p ⟨a, b, c, d, e⟩ bs := ⟨_, rfl⟩
  obtain ⟨X1, hX1⟩ : ∃ X1, X1 = putL 1 p ⟨a, b, c, d, e⟩ bs := ⟨_, rfl⟩
  obtain ⟨X2, hX2⟩ : ∃ X2, X2 = ss := ⟨_, rfl⟩
  rw [← hX1, ← hX2] at hb
  have HAD : Hid (∀ W, Below w.heap.size w W → Calls Tryz.prog 48 #[.int .i64 1, .slice q1 n1 c1, .int .i64 p, .agg #[.int .i64 a, .int .i64 b, .int .i64 c, .int .i64 d, .int .i64 e]] W fun x w' => Below W.heap.size W w' ∧ ∃ q n cc, x = .returned (.tuple #[.slice q n cc, .nilIface]) ∧ DL w' W.heap.size (.slice q n cc) AL) := fun W hW => (add_any 1 _ bs p a b c d e W (h1.below hW)).mono fun x w' h => by
    obtain ⟨g1, v', g2, g3⟩ := h
    rw [ha, errV_zero] at g2
    unfold addL at g3
    rw [if_pos ha, ← hAL] at g3
    obtain ⟨q, n, cc, rfl⟩ := g3.form
    exact ⟨g1, q, n, cc, g2, g3⟩
  obtain ⟨k1, k2, -⟩ := book_zero h0
  have HWI : Hid (∀ W q3 n3 c3 b0, Below w.heap.size w W → b0 ≤ W.heap.size → DL W b0 (.slice q3 n3 c3) AL → Calls Tryz.prog 50 #[.agg #[.slice q1 n1 c1, .slice q2 n2 c2], .int .i64 1, .slice q3 n3 c3] W fun x w' => ∃ u1 u2 m1 m2 d1 d2, x = .returned (.agg #[.slice u1 m1 d1, .slice u2 m2 d2]) ∧ DL w' b0 (.slice u1 m1 d1) X1 ∧ DL w' b0 (.slice u2 m2 d2) X2 ∧ Below W.heap.size W w') := fun W q3 n3 c3 b0 hW hb0 hd => (with_any 1 q1 q2 q3 n1 n2 n3 c1 c2 c3 bs ss AL b0 W (h1.below hW) (h2.below hW) hd hb0 k1 k2).mono fun x w' h => by
    obtain ⟨u1, u2, m1, m2, d1, d2, g1, g2, g3, g4⟩ := h
    rw [if_pos rfl] at g2 g3
    exact ⟨u1, u2, m1, m2, d1, d2, g1, by rw [hX1, ← hAL]; exact g2, by rw [hX2]; exact g3, g4⟩
  have HC2 := fun W u1 u2 m1 m2 d1 d2 (g1 : LS W (.slice u1 m1 d1) X1) (g2 : LS W (.slice u2 m2 d2) X2) => check_any u1 u2 m1 m2 d1 d2 X1 X2 W g1 g2
  rw [errV_of hb] at HC2
  have HERR : Hid (∀ W, Below w.heap.size w W → PutPostD bs ss 1 p ⟨a, b, c, d, e⟩ w (.returned (.tuple #[.agg #[.slice none 0 0, .slice none 0 0], .iface 83 (.int .i64 (bookE X1 X2))])) W) := fun W hW => put_bad (by rw [hE, ← hX1, ← hX2]) hb hW
  obtain ⟨V, hV⟩ : ∃ V, V = ((w.alloc (.cells #[.slice q1 n1 c1, .slice q2 n2 c2] 24)).alloc (.cells #[.int .i64 a, .int .i64 b, .int .i64 c, .int .i64 d, .int .i64 e] 26)).alloc (.cells #[.slice none 0 0, .slice none 0 0] 24) := ⟨_, rfl⟩
  have HB : Hid (Below w.heap.size w V) := by rw [hV]; exact (((Below.refl _ _).alloc (Nat.le_refl _) _).alloc (by simp) _).alloc (by simp; omega) _
  have v0 : V.cell? ⟨w.heap.size, 0, none⟩ = some (.slice q1 n1 c1) := by rw [hV]; simp [go_sem]
  have v1 : V.cell? ⟨w.heap.size, 1, none⟩ = some (.slice q2 n2 c2) := by rw [hV]; simp [go_sem]
  have r0 : V.cell? ⟨w.heap.size + 1, 0, none⟩ = some (.int .i64 a) := by rw [hV]; simp [go_sem]
  have r1 : V.cell? ⟨w.heap.size + 1, 1, none⟩ = some (.int .i64 b) := by rw [hV]; simp [go_sem]
  have r2 : V.cell? ⟨w.heap.size + 1, 2, none⟩ = some (.int .i64 c) := by rw [hV]; simp [go_sem]
  have r3 : V.cell? ⟨w.heap.size + 1, 3, none⟩ = some (.int .i64 d) := by rw [hV]; simp [go_sem]
  have r4 : V.cell? ⟨w.heap.size + 1, 4, none⟩ = some (.int .i64 e) := by rw [hV]; simp [go_sem]
  have hR : V.heap[w.heap.size + 2]? = some (.cells #[.slice none 0 0, .slice none 0 0] 24 (0, 0)) := by
    rw [hV]
    have := heap_alloc_new ((w.alloc (.cells #[.slice q1 n1 c1, .slice q2 n2 c2] 24)).alloc (.cells #[.int .i64 a, .int .i64 b, .int .i64 c, .int .i64 d, .int .i64 e] 26)) (.cells #[.slice none 0 0, .slice none 0 0] 24)
    simpa using this
  have hVs : w.heap.size + 2 < V.heap.size := (Array.getElem?_eq_some_iff.1 hR).1
  generalize PutPostD bs ss 1 p ⟨a, b, c, d, e⟩ w = POST at *
  generalize bookE X1 X2 = k at *
  clear h0 h1 h2 ha hAL hX1 hX2 hP1 hP2 hE hb k1 k2
  go_enter Tryz.func16, Tryz.ntmps16
  go_wp2_with fail
  rw [← hV]
  refine (HCH V HB.out).mono ?_
  rintro x w1 ⟨rfl, b1⟩
  have HB1 : Hid (Below w.heap.size w w1) := HB.out.trans (b1.mono HB.out.size)
  have hR1 : w1.heap[w.heap.size + 2]? = some (.cells #[.slice none 0 0, .slice none 0 0] 24 (0, 0)) := by rw [b1.block _ hVs]; exact hR
  have x0 := keeps b1 v0
  have x1 := keeps b1 v1
  have y0 := keeps b1 r0
  have y1 := keeps b1 r1
  have y2 := keeps b1 r2
  have y3 := keeps b1 r3
  have y4 := keeps b1 r4
  have hs1 : w.heap.size + 2 < w1.heap.size := Nat.lt_of_lt_of_le hVs b1.size
  have HLV : Hid (∀ W, Below w1.heap.size w1 W → Calls Tryz.prog 49 #[.agg #[.slice q1 n1 c1, .slice q2 n2 c2], .int .i64 1] W fun e w' => e = .returned (.slice q1 n1 c1) ∧ Below w1.heap.size w1 w') := fun W hW => by
    have := levels_any 1 q1 q2 n1 n2 c1 c2 W
    rw [if_pos rfl] at this
    exact this.mono fun e w' h => ⟨h.1, hW.trans (h.2.mono hW.size)⟩
  have HAD2 : Hid (∀ W, Below w1.heap.size w1 W → Calls Tryz.prog 48 #[.int .i64 1, .slice q1 n1 c1, .int .i64 p, .agg #[.int .i64 a, .int .i64 b, .int .i64 c, .int .i64 d, .int .i64 e]] W fun x w' => Below w1.heap.size w1 w' ∧ ∃ q n cc, x = .returned (.tuple #[.slice q n cc, .nilIface]) ∧ DL w' w1.heap.size (.slice q n cc) AL) := fun W hW => (HAD.out W (HB1.out.trans (hW.mono HB1.out.size))).mono fun x w' h => by obtain ⟨g1, q, n, cc, g2, g3⟩ := h; exact ⟨hW.trans (g1.mono hW.size), q, n, cc, g2, g3.mono hW.size⟩
  have SO : Hid (∀ W, Below w1.heap.size w1 W → (Below w1.heap.size w1 W ∧ W.cell? ⟨w.heap.size, 0, none⟩ = some (.slice q1 n1 c1) ∧ W.cell? ⟨w.heap.size, 1, none⟩ = some (.slice q2 n2 c2) ∧ W.cell? ⟨w.heap.size + 1, 0, none⟩ = some (.int .i64 a) ∧ W.cell? ⟨w.heap.size + 1, 1, none⟩ = some (.int .i64 b) ∧ W.cell? ⟨w.heap.size + 1, 2, none⟩ = some (.int .i64 c) ∧ W.cell? ⟨w.heap.size + 1, 3, none⟩ = some (.int .i64 d) ∧ W.cell? ⟨w.heap.size + 1, 4, none⟩ = some (.int .i64 e))) := fun W hW => ⟨hW, keeps hW x0, keeps hW x1, keeps hW y0, keeps hW y1, keeps hW y2, keeps hW y3, keeps hW y4⟩
  clear b1 HCH v0 v1 r0 r1 r2 r3 r4 hR HAD
  go_upto_region 4 with fail
  go_region_held3 (fun W => Below w1.heap.size w1 W ∧ W.cell? ⟨w.heap.size, 0, none⟩ = some (.slice q1 n1 c1) ∧ W.cell? ⟨w.heap.size, 1, none⟩ = some (.slice q2 n2 c2) ∧ W.cell? ⟨w.heap.size + 1, 0, none⟩ = some (.int .i64 a) ∧ W.cell? ⟨w.heap.size + 1, 1, none⟩ = some (.int .i64 b) ∧ W.cell? ⟨w.heap.size + 1, 2, none⟩ = some (.int .i64 c) ∧ W.cell? ⟨w.heap.size + 1, 3, none⟩ = some (.int .i64 d) ∧ W.cell? ⟨w.heap.size + 1, 4, none⟩ = some (.int .i64 e))
    ((refine SO.out _ ?_; (repeat' (first | with_reducible assumption | with_reducible refine bal ?_ _ | with_reducible refine Below.setCell ?_ ?_ _ | with_reducible refine Below.drew ?_ | with_reducible exact Below.refl _ _ | with_reducible exact Nat.le_refl _ | with_reducible exact Below.size (by with_reducible assumption) | with_reducible refine Nat.le_succ_of_le ?_))))
    (first | (go_at_call 49; with_reducible refine (HLV.out _ ?_).mono ?_; (repeat' (first | with_reducible assumption | with_reducible refine bal ?_ _ | with_reducible refine Below.setCell ?_ ?_ _ | with_reducible refine Below.drew ?_ | with_reducible exact Below.refl _ _ | with_reducible exact Nat.le_refl _ | with_reducible exact Below.size (by with_reducible assumption) | with_reducible refine Nat.le_succ_of_le ?_)); rintro x W ⟨rfl, hbn⟩) | (go_at_call 48; with_reducible refine (HAD2.out _ ?_).mono ?_; (repeat' (first | with_reducible assumption | with_reducible refine bal ?_ _ | with_reducible refine Below.setCell ?_ ?_ _ | with_reducible refine Below.drew ?_ | with_reducible exact Below.refl _ _ | with_reducible exact Nat.le_refl _ | with_reducible exact Below.size (by with_reducible assumption) | with_reducible refine Nat.le_succ_of_le ?_)); rintro x W ⟨hbn, q3, n3, c3, rfl, hL3⟩))
  have HB2 : Hid (Below w.heap.size w W) := HB1.out.trans (hbn.mono HB1.out.size)
  have HBN : Hid (Below w1.heap.size w1 W) := hbn
  have HL3 : Hid (DL W w1.heap.size (.slice q3 n3 c3) AL) := hL3
  have x0' := keeps hbn x0
  have x1' := keeps hbn x1
  have hs2 : w.heap.size + 2 < W.heap.size := Nat.lt_of_lt_of_le hs1 hbn.size
  clear hbn hL3 SO HLV HAD2 x0 x1 y0 y1 y2 y3 y4
  go_wp2_with fail
  refine (HWI.out W q3 n3 c3 w1.heap.size HB2.out HBN.out.size HL3.out).mono ?_
  rintro x w3 ⟨u1, u2, m1, m2, d1, d2, rfl, hA, hB', b3⟩
  have HB3 : Hid (Below w1.heap.size w1 w3) := HBN.out.trans (b3.mono HBN.out.size)
  have HA : Hid (DL w3 w1.heap.size (.slice u1 m1 d1) X1) := hA
  have HBB : Hid (DL w3 w1.heap.size (.slice u2 m2 d2) X2) := hB'
  clear hA hB' b3 HWI x0' x1'
  go_wp2_with fail
  have hR4 := heap_alloc_new w3 (.cells #[.slice u1 m1 d1, .slice u2 m2 d2] 24)
  have hA4 : Below w3.heap.size w3 (w3.alloc (.cells #[.slice u1 m1 d1, .slice u2 m2 d2] 24)) := (Below.refl _ _).alloc (Nat.le_refl _) _
  generalize w3.alloc (.cells #[.slice u1 m1 d1, .slice u2 m2 d2] 24) = V4 at *
  have HA4 : Hid (DL V4 w1.heap.size (.slice u1 m1 d1) X1) := HA.out.below hA4
  have HB4 : Hid (DL V4 w1.heap.size (.slice u2 m2 d2) X2) := HBB.out.below hA4
  have HV4 : Hid (Below w1.heap.size w1 V4) := HB3.out.trans (hA4.mono HB3.out.size)
  obtain ⟨z0, z1, -⟩ := rowTwo hR4
  have hz4 : w3.heap.size < V4.heap.size := (Array.getElem?_eq_some_iff.1 hR4).1
  clear hA4 hR4
  generalize w3.heap.size = B4 at *
  refine (HC2 V4 u1 u2 m1 m2 d1 d2 HA4.out.ls HB4.out.ls).mono ?_
  rintro x w5 ⟨rfl, b5⟩
  have HV5 : Hid (Below w1.heap.size w1 w5) := HV4.out.trans (b5.mono HV4.out.size)
  have HBW : Hid (Below w.heap.size w w5) := HB1.out.trans (HV5.out.mono HB1.out.size)
  have HA5 : Hid (DL w5 w1.heap.size (.slice u1 m1 d1) X1) := HA4.out.below b5
  have HB5 : Hid (DL w5 w1.heap.size (.slice u2 m2 d2) X2) := HB4.out.below b5
  have hRW : w5.heap[w.heap.size + 2]? = some (.cells #[.slice none 0 0, .slice none 0 0] 24 (0, 0)) := by rw [HV5.out.block _ hs1]; exact hR1
  have t0 := keeps b5 z0
  have t1 := keeps b5 z1
  have hs5 : B4 < w5.heap.size := Nat.lt_of_lt_of_le hz4 b5.size
  have hs6 : w.heap.size + 2 < w5.heap.size := Nat.lt_of_lt_of_le hs1 HV5.out.size
  clear b5 HC2 z0 z1 hR1
  obtain ⟨g0, g1, hf⟩ := rowTwo hRW
  have f0 := hf 0
  have f1 := hf 1
  have hg := grTwo w5 (w.heap.size + 2) (.slice none 0 0) (.slice none 0 0)
  have HPX := HERR.out _ (HBW.out.grown hg HBW.out.size (fun k hk => by cases hk; omega))
  have HHX : Hid (((w5.setCell ⟨w.heap.size + 2, 0, none⟩ (.slice none 0 0)).setCell ⟨w.heap.size + 2, 1, none⟩ (.slice none 0 0)).heap[w.heap.size + 2]? = some (.cells #[.slice none 0 0, .slice none 0 0] 24 (0, 0))) := setTwo hRW (.slice none 0 0) (.slice none 0 0)
  clear hf hg HERR hRW
  go_wp2_with fail
  generalize ((w5.setCell ⟨w.heap.size + 2, 0, none⟩ (.slice none 0 0)).setCell ⟨w.heap.size + 2, 1, none⟩ (.slice none 0 0)) = X at *
  obtain ⟨y0, y1, -⟩ := rowTwo HHX.out
  exact bodyPost_ret (v := .tuple #[.agg #[.slice none 0 0, .slice none 0 0], .iface 83 (.int .i64 k)]) (by simp [results, Tryz.results16, go_sem, y0, y1]) rfl HPX

set_option maxRecDepth 100000 in
set_option maxHeartbeats 2000000 in
theorem put_ok1 (p : Int) (q1 q2 : Option Addr) (n1 n2 c1 c2 : Nat) (a b c d e : Int) (bs ss : List L) (w : World) (h1 : LS w (.slice q1 n1 c1) bs) (h2 : LS w (.slice q2 n2 c2) ss)  (h0 : bookE bs ss = 0) (ha : addE 1 bs p ⟨a, b, c, d, e⟩ = 0) (hb :  bookE (putL 1 p ⟨a, b, c, d, e⟩ bs) (ss) = 0) :
    Calls Tryz.prog 16 #[.agg #[.slice q1 n1 c1, .slice q2 n2 c2], .int .i64 1, .int .i64 p, .agg #[.int .i64 a, .int .i64 b, .int .i64 c, .int .i64 d, .int .i64 e]] w fun x w' => PutPostD bs ss 1 p ⟨a, b, c, d, e⟩ w x w' := by
  have HCH := fun W (hW : Below w.heap.size w W) => check_any q1 q2 n1 n2 c1 c2 bs ss W (h1.below hW) (h2.below hW)
  rw [h0, errV_zero] at HCH
  have hP1 : put1 bs 1 p ⟨a, b, c, d, e⟩ = putL 1 p ⟨a, b, c, d, e⟩ bs := by unfold put1; rw [if_pos rfl]
  have hP2 : put2 ss 1 p ⟨a, b, c, d, e⟩ = ss := by unfold put2; rw [if_pos rfl]
  have hE : putE bs ss 1 p ⟨a, b, c, d, e⟩ = bookE (putL 1 p ⟨a, b, c, d, e⟩ bs) (ss) := by unfold putE; rw [if_pos h0, if_pos rfl, if_pos ha, hP1, hP2]
  obtain ⟨AL, hAL⟩ : ∃ AL, AL = putL 1 p ⟨a, b, c, d, e⟩ bs := ⟨_, rfl⟩
  obtain ⟨X1, hX1⟩ : ∃ X1, X1 = putL 1 p ⟨a, b, c, d, e⟩ bs := ⟨_, rfl⟩
  obtain ⟨X2, hX2⟩ : ∃ X2, X2 = ss := ⟨_, rfl⟩
  rw [← hX1, ← hX2] at hb
  have HAD : Hid (∀ W, Below w.heap.size w W → Calls Tryz.prog 48 #[.int .i64 1, .slice q1 n1 c1, .int .i64 p, .agg #[.int .i64 a, .int .i64 b, .int .i64 c, .int .i64 d, .int .i64 e]] W fun x w' => Below W.heap.size W w' ∧ ∃ q n cc, x = .returned (.tuple #[.slice q n cc, .nilIface]) ∧ DL w' W.heap.size (.slice q n cc) AL) := fun W hW => (add_any 1 _ bs p a b c d e W (h1.below hW)).mono fun x w' h => by
    obtain ⟨g1, v', g2, g3⟩ := h
    rw [ha, errV_zero] at g2
    unfold addL at g3
    rw [if_pos ha, ← hAL] at g3
    obtain ⟨q, n, cc, rfl⟩ := g3.form
    exact ⟨g1, q, n, cc, g2, g3⟩
  obtain ⟨k1, k2, -⟩ := book_zero h0
  have HWI : Hid (∀ W q3 n3 c3 b0, Below w.heap.size w W → b0 ≤ W.heap.size → DL W b0 (.slice q3 n3 c3) AL → Calls Tryz.prog 50 #[.agg #[.slice q1 n1 c1, .slice q2 n2 c2], .int .i64 1, .slice q3 n3 c3] W fun x w' => ∃ u1 u2 m1 m2 d1 d2, x = .returned (.agg #[.slice u1 m1 d1, .slice u2 m2 d2]) ∧ DL w' b0 (.slice u1 m1 d1) X1 ∧ DL w' b0 (.slice u2 m2 d2) X2 ∧ Below W.heap.size W w') := fun W q3 n3 c3 b0 hW hb0 hd => (with_any 1 q1 q2 q3 n1 n2 n3 c1 c2 c3 bs ss AL b0 W (h1.below hW) (h2.below hW) hd hb0 k1 k2).mono fun x w' h => by
    obtain ⟨u1, u2, m1, m2, d1, d2, g1, g2, g3, g4⟩ := h
    rw [if_pos rfl] at g2 g3
    exact ⟨u1, u2, m1, m2, d1, d2, g1, by rw [hX1, ← hAL]; exact g2, by rw [hX2]; exact g3, g4⟩
  have HC2 := fun W u1 u2 m1 m2 d1 d2 (g1 : LS W (.slice u1 m1 d1) X1) (g2 : LS W (.slice u2 m2 d2) X2) => check_any u1 u2 m1 m2 d1 d2 X1 X2 W g1 g2
  rw [hb, errV_zero] at HC2
  have HOK : Hid (∀ W u1 u2 m1 m2 d1 d2, Below w.heap.size w W → DL W w.heap.size (.slice u1 m1 d1) X1 → DL W w.heap.size (.slice u2 m2 d2) X2 → PutPostD bs ss 1 p ⟨a, b, c, d, e⟩ w (.returned (.tuple #[.agg #[.slice u1 m1 d1, .slice u2 m2 d2], .nilIface])) W) := fun W u1 u2 m1 m2 d1 d2 hW g1 g2 => by
    have hz : putE bs ss 1 p ⟨a, b, c, d, e⟩ = 0 := by rw [hE, ← hX1, ← hX2]; exact hb
    exact ⟨u1, u2, m1, m2, d1, d2, by rw [hz, errV_zero], by rw [if_pos hz, hP1, ← hX1]; exact g1, by rw [if_pos hz, hP2, ← hX2]; exact g2, hW⟩
  obtain ⟨V, hV⟩ : ∃ V, V = ((w.alloc (.cells #[.slice q1 n1 c1, .slice q2 n2 c2] 24)).alloc (.cells #[.int .i64 a, .int .i64 b, .int .i64 c, .int .i64 d, .int .i64 e] 26)).alloc (.cells #[.slice none 0 0, .slice none 0 0] 24) := ⟨_, rfl⟩
  have HB : Hid (Below w.heap.size w V) := by rw [hV]; exact (((Below.refl _ _).alloc (Nat.le_refl _) _).alloc (by simp) _).alloc (by simp; omega) _
  have v0 : V.cell? ⟨w.heap.size, 0, none⟩ = some (.slice q1 n1 c1) := by rw [hV]; simp [go_sem]
  have v1 : V.cell? ⟨w.heap.size, 1, none⟩ = some (.slice q2 n2 c2) := by rw [hV]; simp [go_sem]
  have r0 : V.cell? ⟨w.heap.size + 1, 0, none⟩ = some (.int .i64 a) := by rw [hV]; simp [go_sem]
  have r1 : V.cell? ⟨w.heap.size + 1, 1, none⟩ = some (.int .i64 b) := by rw [hV]; simp [go_sem]
  have r2 : V.cell? ⟨w.heap.size + 1, 2, none⟩ = some (.int .i64 c) := by rw [hV]; simp [go_sem]
  have r3 : V.cell? ⟨w.heap.size + 1, 3, none⟩ = some (.int .i64 d) := by rw [hV]; simp [go_sem]
  have r4 : V.cell? ⟨w.heap.size + 1, 4, none⟩ = some (.int .i64 e) := by rw [hV]; simp [go_sem]
  have hR : V.heap[w.heap.size + 2]? = some (.cells #[.slice none 0 0, .slice none 0 0] 24 (0, 0)) := by
    rw [hV]
    have := heap_alloc_new ((w.alloc (.cells #[.slice q1 n1 c1, .slice q2 n2 c2] 24)).alloc (.cells #[.int .i64 a, .int .i64 b, .int .i64 c, .int .i64 d, .int .i64 e] 26)) (.cells #[.slice none 0 0, .slice none 0 0] 24)
    simpa using this
  have hVs : w.heap.size + 2 < V.heap.size := (Array.getElem?_eq_some_iff.1 hR).1
  generalize PutPostD bs ss 1 p ⟨a, b, c, d, e⟩ w = POST at *
  clear h0 h1 h2 ha hAL hX1 hX2 hP1 hP2 hE hb k1 k2
  go_enter Tryz.func16, Tryz.ntmps16
  go_wp2_with fail
  rw [← hV]
  refine (HCH V HB.out).mono ?_
  rintro x w1 ⟨rfl, b1⟩
  have HB1 : Hid (Below w.heap.size w w1) := HB.out.trans (b1.mono HB.out.size)
  have hR1 : w1.heap[w.heap.size + 2]? = some (.cells #[.slice none 0 0, .slice none 0 0] 24 (0, 0)) := by rw [b1.block _ hVs]; exact hR
  have x0 := keeps b1 v0
  have x1 := keeps b1 v1
  have y0 := keeps b1 r0
  have y1 := keeps b1 r1
  have y2 := keeps b1 r2
  have y3 := keeps b1 r3
  have y4 := keeps b1 r4
  have hs1 : w.heap.size + 2 < w1.heap.size := Nat.lt_of_lt_of_le hVs b1.size
  have HLV : Hid (∀ W, Below w1.heap.size w1 W → Calls Tryz.prog 49 #[.agg #[.slice q1 n1 c1, .slice q2 n2 c2], .int .i64 1] W fun e w' => e = .returned (.slice q1 n1 c1) ∧ Below w1.heap.size w1 w') := fun W hW => by
    have := levels_any 1 q1 q2 n1 n2 c1 c2 W
    rw [if_pos rfl] at this
    exact this.mono fun e w' h => ⟨h.1, hW.trans (h.2.mono hW.size)⟩
  have HAD2 : Hid (∀ W, Below w1.heap.size w1 W → Calls Tryz.prog 48 #[.int .i64 1, .slice q1 n1 c1, .int .i64 p, .agg #[.int .i64 a, .int .i64 b, .int .i64 c, .int .i64 d, .int .i64 e]] W fun x w' => Below w1.heap.size w1 w' ∧ ∃ q n cc, x = .returned (.tuple #[.slice q n cc, .nilIface]) ∧ DL w' w1.heap.size (.slice q n cc) AL) := fun W hW => (HAD.out W (HB1.out.trans (hW.mono HB1.out.size))).mono fun x w' h => by obtain ⟨g1, q, n, cc, g2, g3⟩ := h; exact ⟨hW.trans (g1.mono hW.size), q, n, cc, g2, g3.mono hW.size⟩
  have SO : Hid (∀ W, Below w1.heap.size w1 W → (Below w1.heap.size w1 W ∧ W.cell? ⟨w.heap.size, 0, none⟩ = some (.slice q1 n1 c1) ∧ W.cell? ⟨w.heap.size, 1, none⟩ = some (.slice q2 n2 c2) ∧ W.cell? ⟨w.heap.size + 1, 0, none⟩ = some (.int .i64 a) ∧ W.cell? ⟨w.heap.size + 1, 1, none⟩ = some (.int .i64 b) ∧ W.cell? ⟨w.heap.size + 1, 2, none⟩ = some (.int .i64 c) ∧ W.cell? ⟨w.heap.size + 1, 3, none⟩ = some (.int .i64 d) ∧ W.cell? ⟨w.heap.size + 1, 4, none⟩ = some (.int .i64 e))) := fun W hW => ⟨hW, keeps hW x0, keeps hW x1, keeps hW y0, keeps hW y1, keeps hW y2, keeps hW y3, keeps hW y4⟩
  clear b1 HCH v0 v1 r0 r1 r2 r3 r4 hR HAD
  go_upto_region 4 with fail
  go_region_held3 (fun W => Below w1.heap.size w1 W ∧ W.cell? ⟨w.heap.size, 0, none⟩ = some (.slice q1 n1 c1) ∧ W.cell? ⟨w.heap.size, 1, none⟩ = some (.slice q2 n2 c2) ∧ W.cell? ⟨w.heap.size + 1, 0, none⟩ = some (.int .i64 a) ∧ W.cell? ⟨w.heap.size + 1, 1, none⟩ = some (.int .i64 b) ∧ W.cell? ⟨w.heap.size + 1, 2, none⟩ = some (.int .i64 c) ∧ W.cell? ⟨w.heap.size + 1, 3, none⟩ = some (.int .i64 d) ∧ W.cell? ⟨w.heap.size + 1, 4, none⟩ = some (.int .i64 e))
    ((refine SO.out _ ?_; (repeat' (first | with_reducible assumption | with_reducible refine bal ?_ _ | with_reducible refine Below.setCell ?_ ?_ _ | with_reducible refine Below.drew ?_ | with_reducible exact Below.refl _ _ | with_reducible exact Nat.le_refl _ | with_reducible exact Below.size (by with_reducible assumption) | with_reducible refine Nat.le_succ_of_le ?_))))
    (first | (go_at_call 49; with_reducible refine (HLV.out _ ?_).mono ?_; (repeat' (first | with_reducible assumption | with_reducible refine bal ?_ _ | with_reducible refine Below.setCell ?_ ?_ _ | with_reducible refine Below.drew ?_ | with_reducible exact Below.refl _ _ | with_reducible exact Nat.le_refl _ | with_reducible exact Below.size (by with_reducible assumption) | with_reducible refine Nat.le_succ_of_le ?_)); rintro x W ⟨rfl, hbn⟩) | (go_at_call 48; with_reducible refine (HAD2.out _ ?_).mono ?_; (repeat' (first | with_reducible assumption | with_reducible refine bal ?_ _ | with_reducible refine Below.setCell ?_ ?_ _ | with_reducible refine Below.drew ?_ | with_reducible exact Below.refl _ _ | with_reducible exact Nat.le_refl _ | with_reducible exact Below.size (by with_reducible assumption) | with_reducible refine Nat.le_succ_of_le ?_)); rintro x W ⟨hbn, q3, n3, c3, rfl, hL3⟩))
  have HB2 : Hid (Below w.heap.size w W) := HB1.out.trans (hbn.mono HB1.out.size)
  have HBN : Hid (Below w1.heap.size w1 W) := hbn
  have HL3 : Hid (DL W w1.heap.size (.slice q3 n3 c3) AL) := hL3
  have x0' := keeps hbn x0
  have x1' := keeps hbn x1
  have hs2 : w.heap.size + 2 < W.heap.size := Nat.lt_of_lt_of_le hs1 hbn.size
  clear hbn hL3 SO HLV HAD2 x0 x1 y0 y1 y2 y3 y4
  go_wp2_with fail
  refine (HWI.out W q3 n3 c3 w1.heap.size HB2.out HBN.out.size HL3.out).mono ?_
  rintro x w3 ⟨u1, u2, m1, m2, d1, d2, rfl, hA, hB', b3⟩
  have HB3 : Hid (Below w1.heap.size w1 w3) := HBN.out.trans (b3.mono HBN.out.size)
  have HA : Hid (DL w3 w1.heap.size (.slice u1 m1 d1) X1) := hA
  have HBB : Hid (DL w3 w1.heap.size (.slice u2 m2 d2) X2) := hB'
  clear hA hB' b3 HWI x0' x1'
  go_wp2_with fail
  have hR4 := heap_alloc_new w3 (.cells #[.slice u1 m1 d1, .slice u2 m2 d2] 24)
  have hA4 : Below w3.heap.size w3 (w3.alloc (.cells #[.slice u1 m1 d1, .slice u2 m2 d2] 24)) := (Below.refl _ _).alloc (Nat.le_refl _) _
  generalize w3.alloc (.cells #[.slice u1 m1 d1, .slice u2 m2 d2] 24) = V4 at *
  have HA4 : Hid (DL V4 w1.heap.size (.slice u1 m1 d1) X1) := HA.out.below hA4
  have HB4 : Hid (DL V4 w1.heap.size (.slice u2 m2 d2) X2) := HBB.out.below hA4
  have HV4 : Hid (Below w1.heap.size w1 V4) := HB3.out.trans (hA4.mono HB3.out.size)
  obtain ⟨z0, z1, -⟩ := rowTwo hR4
  have hz4 : w3.heap.size < V4.heap.size := (Array.getElem?_eq_some_iff.1 hR4).1
  clear hA4 hR4
  generalize w3.heap.size = B4 at *
  refine (HC2 V4 u1 u2 m1 m2 d1 d2 HA4.out.ls HB4.out.ls).mono ?_
  rintro x w5 ⟨rfl, b5⟩
  have HV5 : Hid (Below w1.heap.size w1 w5) := HV4.out.trans (b5.mono HV4.out.size)
  have HBW : Hid (Below w.heap.size w w5) := HB1.out.trans (HV5.out.mono HB1.out.size)
  have HA5 : Hid (DL w5 w1.heap.size (.slice u1 m1 d1) X1) := HA4.out.below b5
  have HB5 : Hid (DL w5 w1.heap.size (.slice u2 m2 d2) X2) := HB4.out.below b5
  have hRW : w5.heap[w.heap.size + 2]? = some (.cells #[.slice none 0 0, .slice none 0 0] 24 (0, 0)) := by rw [HV5.out.block _ hs1]; exact hR1
  have t0 := keeps b5 z0
  have t1 := keeps b5 z1
  have hs5 : B4 < w5.heap.size := Nat.lt_of_lt_of_le hz4 b5.size
  have hs6 : w.heap.size + 2 < w5.heap.size := Nat.lt_of_lt_of_le hs1 HV5.out.size
  clear b5 HC2 z0 z1 hR1
  obtain ⟨g0, g1, hf⟩ := rowTwo hRW
  have f0 := hf 0
  have f1 := hf 1
  have hg := grTwo w5 (w.heap.size + 2) (.slice u1 m1 d1) (.slice u2 m2 d2)
  have HPX := HOK.out _ u1 u2 m1 m2 d1 d2 (HBW.out.grown hg HBW.out.size (fun k hk => by cases hk; omega)) ((DL.other HA5.out hg hs1).mono HB1.out.size) ((DL.other HB5.out hg hs1).mono HB1.out.size)
  have HHX : Hid (((w5.setCell ⟨w.heap.size + 2, 0, none⟩ (.slice u1 m1 d1)).setCell ⟨w.heap.size + 2, 1, none⟩ (.slice u2 m2 d2)).heap[w.heap.size + 2]? = some (.cells #[.slice u1 m1 d1, .slice u2 m2 d2] 24 (0, 0))) := setTwo hRW _ _
  clear hf hg HOK hRW
  go_wp2_with fail
  generalize ((w5.setCell ⟨w.heap.size + 2, 0, none⟩ (.slice u1 m1 d1)).setCell ⟨w.heap.size + 2, 1, none⟩ (.slice u2 m2 d2)) = X at *
  obtain ⟨y0, y1, -⟩ := rowTwo HHX.out
  exact bodyPost_ret (v := .tuple #[.agg #[.slice u1 m1 d1, .slice u2 m2 d2], .nilIface]) (by simp [results, Tryz.results16, go_sem, y0, y1]) rfl HPX

set_option maxRecDepth 100000 in
set_option maxHeartbeats 2000000 in
theorem put_err2 (s p : Int) (q1 q2 : Option Addr) (n1 n2 c1 c2 : Nat) (a b c d e : Int) (bs ss : List L) (w : World) (h1 : LS w (.slice q1 n1 c1) bs) (h2 : LS w (.slice q2 n2 c2) ss) (hs : ¬ s = 1) (h0 : bookE bs ss = 0) (ha : addE s ss p ⟨a, b, c, d, e⟩ = 0) (hb : ¬ bookE (bs) (putL s p ⟨a, b, c, d, e⟩ ss) = 0) :
    Calls Tryz.prog 16 #[.agg #[.slice q1 n1 c1, .slice q2 n2 c2], .int .i64 s, .int .i64 p, .agg #[.int .i64 a, .int .i64 b, .int .i64 c, .int .i64 d, .int .i64 e]] w fun x w' => PutPostD bs ss s p ⟨a, b, c, d, e⟩ w x w' := by
  have HCH := fun W (hW : Below w.heap.size w W) => check_any q1 q2 n1 n2 c1 c2 bs ss W (h1.below hW) (h2.below hW)
  rw [h0, errV_zero] at HCH
  have hP1 : put1 bs s p ⟨a, b, c, d, e⟩ = bs := by unfold put1; rw [if_neg hs]
  have hP2 : put2 ss s p ⟨a, b, c, d, e⟩ = putL s p ⟨a, b, c, d, e⟩ ss := by unfold put2; rw [if_neg hs]
  have hE : putE bs ss s p ⟨a, b, c, d, e⟩ = bookE (bs) (putL s p ⟨a, b, c, d, e⟩ ss) := by unfold putE; rw [if_pos h0, if_neg hs, if_pos ha, hP1, hP2]
  obtain ⟨AL, hAL⟩ : ∃ AL, AL = putL s p ⟨a, b, c, d, e⟩ ss := ⟨_, rfl⟩
  obtain ⟨X1, hX1⟩ : ∃ X1, X1 = bs := ⟨_, rfl⟩
  obtain ⟨X2, hX2⟩ : ∃ X2, X2 = putL s p ⟨a, b, c, d, e⟩ ss := ⟨_, rfl⟩
  rw [← hX1, ← hX2] at hb
  have HAD : Hid (∀ W, Below w.heap.size w W → Calls Tryz.prog 48 #[.int .i64 s, .slice q2 n2 c2, .int .i64 p, .agg #[.int .i64 a, .int .i64 b, .int .i64 c, .int .i64 d, .int .i64 e]] W fun x w' => Below W.heap.size W w' ∧ ∃ q n cc, x = .returned (.tuple #[.slice q n cc, .nilIface]) ∧ DL w' W.heap.size (.slice q n cc) AL) := fun W hW => (add_any s _ ss p a b c d e W (h2.below hW)).mono fun x w' h => by
    obtain ⟨g1, v', g2, g3⟩ := h
    rw [ha, errV_zero] at g2
    unfold addL at g3
    rw [if_pos ha, ← hAL] at g3
    obtain ⟨q, n, cc, rfl⟩ := g3.form
    exact ⟨g1, q, n, cc, g2, g3⟩
  obtain ⟨k1, k2, -⟩ := book_zero h0
  have HWI : Hid (∀ W q3 n3 c3 b0, Below w.heap.size w W → b0 ≤ W.heap.size → DL W b0 (.slice q3 n3 c3) AL → Calls Tryz.prog 50 #[.agg #[.slice q1 n1 c1, .slice q2 n2 c2], .int .i64 s, .slice q3 n3 c3] W fun x w' => ∃ u1 u2 m1 m2 d1 d2, x = .returned (.agg #[.slice u1 m1 d1, .slice u2 m2 d2]) ∧ DL w' b0 (.slice u1 m1 d1) X1 ∧ DL w' b0 (.slice u2 m2 d2) X2 ∧ Below W.heap.size W w') := fun W q3 n3 c3 b0 hW hb0 hd => (with_any s q1 q2 q3 n1 n2 n3 c1 c2 c3 bs ss AL b0 W (h1.below hW) (h2.below hW) hd hb0 k1 k2).mono fun x w' h => by
    obtain ⟨u1, u2, m1, m2, d1, d2, g1, g2, g3, g4⟩ := h
    rw [if_neg hs] at g2 g3
    exact ⟨u1, u2, m1, m2, d1, d2, g1, by rw [hX1]; exact g2, by rw [hX2, ← hAL]; exact g3, g4⟩
  have HC2 := fun W u1 u2 m1 m2 d1 d2 (g1 : LS W (.slice u1 m1 d1) X1) (g2 : LS W (.slice u2 m2 d2) X2) => check_any u1 u2 m1 m2 d1 d2 X1 X2 W g1 g2
  rw [errV_of hb] at HC2
  have HERR : Hid (∀ W, Below w.heap.size w W → PutPostD bs ss s p ⟨a, b, c, d, e⟩ w (.returned (.tuple #[.agg #[.slice none 0 0, .slice none 0 0], .iface 83 (.int .i64 (bookE X1 X2))])) W) := fun W hW => put_bad (by rw [hE, ← hX1, ← hX2]) hb hW
  obtain ⟨V, hV⟩ : ∃ V, V = ((w.alloc (.cells #[.slice q1 n1 c1, .slice q2 n2 c2] 24)).alloc (.cells #[.int .i64 a, .int .i64 b, .int .i64 c, .int .i64 d, .int .i64 e] 26)).alloc (.cells #[.slice none 0 0, .slice none 0 0] 24) := ⟨_, rfl⟩
  have HB : Hid (Below w.heap.size w V) := by rw [hV]; exact (((Below.refl _ _).alloc (Nat.le_refl _) _).alloc (by simp) _).alloc (by simp; omega) _
  have v0 : V.cell? ⟨w.heap.size, 0, none⟩ = some (.slice q1 n1 c1) := by rw [hV]; simp [go_sem]
  have v1 : V.cell? ⟨w.heap.size, 1, none⟩ = some (.slice q2 n2 c2) := by rw [hV]; simp [go_sem]
  have r0 : V.cell? ⟨w.heap.size + 1, 0, none⟩ = some (.int .i64 a) := by rw [hV]; simp [go_sem]
  have r1 : V.cell? ⟨w.heap.size + 1, 1, none⟩ = some (.int .i64 b) := by rw [hV]; simp [go_sem]
  have r2 : V.cell? ⟨w.heap.size + 1, 2, none⟩ = some (.int .i64 c) := by rw [hV]; simp [go_sem]
  have r3 : V.cell? ⟨w.heap.size + 1, 3, none⟩ = some (.int .i64 d) := by rw [hV]; simp [go_sem]
  have r4 : V.cell? ⟨w.heap.size + 1, 4, none⟩ = some (.int .i64 e) := by rw [hV]; simp [go_sem]
  have hR : V.heap[w.heap.size + 2]? = some (.cells #[.slice none 0 0, .slice none 0 0] 24 (0, 0)) := by
    rw [hV]
    have := heap_alloc_new ((w.alloc (.cells #[.slice q1 n1 c1, .slice q2 n2 c2] 24)).alloc (.cells #[.int .i64 a, .int .i64 b, .int .i64 c, .int .i64 d, .int .i64 e] 26)) (.cells #[.slice none 0 0, .slice none 0 0] 24)
    simpa using this
  have hVs : w.heap.size + 2 < V.heap.size := (Array.getElem?_eq_some_iff.1 hR).1
  generalize PutPostD bs ss s p ⟨a, b, c, d, e⟩ w = POST at *
  generalize bookE X1 X2 = k at *
  clear h0 h1 h2 ha hAL hX1 hX2 hP1 hP2 hE hb k1 k2
  go_enter Tryz.func16, Tryz.ntmps16
  go_wp2_with fail
  rw [← hV]
  refine (HCH V HB.out).mono ?_
  rintro x w1 ⟨rfl, b1⟩
  have HB1 : Hid (Below w.heap.size w w1) := HB.out.trans (b1.mono HB.out.size)
  have hR1 : w1.heap[w.heap.size + 2]? = some (.cells #[.slice none 0 0, .slice none 0 0] 24 (0, 0)) := by rw [b1.block _ hVs]; exact hR
  have x0 := keeps b1 v0
  have x1 := keeps b1 v1
  have y0 := keeps b1 r0
  have y1 := keeps b1 r1
  have y2 := keeps b1 r2
  have y3 := keeps b1 r3
  have y4 := keeps b1 r4
  have hs1 : w.heap.size + 2 < w1.heap.size := Nat.lt_of_lt_of_le hVs b1.size
  have HLV : Hid (∀ W, Below w1.heap.size w1 W → Calls Tryz.prog 49 #[.agg #[.slice q1 n1 c1, .slice q2 n2 c2], .int .i64 s] W fun e w' => e = .returned (.slice q2 n2 c2) ∧ Below w1.heap.size w1 w') := fun W hW => by
    have := levels_any s q1 q2 n1 n2 c1 c2 W
    rw [if_neg hs] at this
    exact this.mono fun e w' h => ⟨h.1, hW.trans (h.2.mono hW.size)⟩
  have HAD2 : Hid (∀ W, Below w1.heap.size w1 W → Calls Tryz.prog 48 #[.int .i64 s, .slice q2 n2 c2, .int .i64 p, .agg #[.int .i64 a, .int .i64 b, .int .i64 c, .int .i64 d, .int .i64 e]] W fun x w' => Below w1.heap.size w1 w' ∧ ∃ q n cc, x = .returned (.tuple #[.slice q n cc, .nilIface]) ∧ DL w' w1.heap.size (.slice q n cc) AL) := fun W hW => (HAD.out W (HB1.out.trans (hW.mono HB1.out.size))).mono fun x w' h => by obtain ⟨g1, q, n, cc, g2, g3⟩ := h; exact ⟨hW.trans (g1.mono hW.size), q, n, cc, g2, g3.mono hW.size⟩
  have SO : Hid (∀ W, Below w1.heap.size w1 W → (Below w1.heap.size w1 W ∧ W.cell? ⟨w.heap.size, 0, none⟩ = some (.slice q1 n1 c1) ∧ W.cell? ⟨w.heap.size, 1, none⟩ = some (.slice q2 n2 c2) ∧ W.cell? ⟨w.heap.size + 1, 0, none⟩ = some (.int .i64 a) ∧ W.cell? ⟨w.heap.size + 1, 1, none⟩ = some (.int .i64 b) ∧ W.cell? ⟨w.heap.size + 1, 2, none⟩ = some (.int .i64 c) ∧ W.cell? ⟨w.heap.size + 1, 3, none⟩ = some (.int .i64 d) ∧ W.cell? ⟨w.heap.size + 1, 4, none⟩ = some (.int .i64 e))) := fun W hW => ⟨hW, keeps hW x0, keeps hW x1, keeps hW y0, keeps hW y1, keeps hW y2, keeps hW y3, keeps hW y4⟩
  clear b1 HCH v0 v1 r0 r1 r2 r3 r4 hR HAD
  go_upto_region 4 with fail
  go_region_held3 (fun W => Below w1.heap.size w1 W ∧ W.cell? ⟨w.heap.size, 0, none⟩ = some (.slice q1 n1 c1) ∧ W.cell? ⟨w.heap.size, 1, none⟩ = some (.slice q2 n2 c2) ∧ W.cell? ⟨w.heap.size + 1, 0, none⟩ = some (.int .i64 a) ∧ W.cell? ⟨w.heap.size + 1, 1, none⟩ = some (.int .i64 b) ∧ W.cell? ⟨w.heap.size + 1, 2, none⟩ = some (.int .i64 c) ∧ W.cell? ⟨w.heap.size + 1, 3, none⟩ = some (.int .i64 d) ∧ W.cell? ⟨w.heap.size + 1, 4, none⟩ = some (.int .i64 e))
    ((refine SO.out _ ?_; (repeat' (first | with_reducible assumption | with_reducible refine bal ?_ _ | with_reducible refine Below.setCell ?_ ?_ _ | with_reducible refine Below.drew ?_ | with_reducible exact Below.refl _ _ | with_reducible exact Nat.le_refl _ | with_reducible exact Below.size (by with_reducible assumption) | with_reducible refine Nat.le_succ_of_le ?_))))
    (first | (go_at_call 49; with_reducible refine (HLV.out _ ?_).mono ?_; (repeat' (first | with_reducible assumption | with_reducible refine bal ?_ _ | with_reducible refine Below.setCell ?_ ?_ _ | with_reducible refine Below.drew ?_ | with_reducible exact Below.refl _ _ | with_reducible exact Nat.le_refl _ | with_reducible exact Below.size (by with_reducible assumption) | with_reducible refine Nat.le_succ_of_le ?_)); rintro x W ⟨rfl, hbn⟩) | (go_at_call 48; with_reducible refine (HAD2.out _ ?_).mono ?_; (repeat' (first | with_reducible assumption | with_reducible refine bal ?_ _ | with_reducible refine Below.setCell ?_ ?_ _ | with_reducible refine Below.drew ?_ | with_reducible exact Below.refl _ _ | with_reducible exact Nat.le_refl _ | with_reducible exact Below.size (by with_reducible assumption) | with_reducible refine Nat.le_succ_of_le ?_)); rintro x W ⟨hbn, q3, n3, c3, rfl, hL3⟩))
  have HB2 : Hid (Below w.heap.size w W) := HB1.out.trans (hbn.mono HB1.out.size)
  have HBN : Hid (Below w1.heap.size w1 W) := hbn
  have HL3 : Hid (DL W w1.heap.size (.slice q3 n3 c3) AL) := hL3
  have x0' := keeps hbn x0
  have x1' := keeps hbn x1
  have hs2 : w.heap.size + 2 < W.heap.size := Nat.lt_of_lt_of_le hs1 hbn.size
  clear hbn hL3 SO HLV HAD2 x0 x1 y0 y1 y2 y3 y4
  go_wp2_with fail
  refine (HWI.out W q3 n3 c3 w1.heap.size HB2.out HBN.out.size HL3.out).mono ?_
  rintro x w3 ⟨u1, u2, m1, m2, d1, d2, rfl, hA, hB', b3⟩
  have HB3 : Hid (Below w1.heap.size w1 w3) := HBN.out.trans (b3.mono HBN.out.size)
  have HA : Hid (DL w3 w1.heap.size (.slice u1 m1 d1) X1) := hA
  have HBB : Hid (DL w3 w1.heap.size (.slice u2 m2 d2) X2) := hB'
  clear hA hB' b3 HWI x0' x1'
  go_wp2_with fail
  have hR4 := heap_alloc_new w3 (.cells #[.slice u1 m1 d1, .slice u2 m2 d2] 24)
  have hA4 : Below w3.heap.size w3 (w3.alloc (.cells #[.slice u1 m1 d1, .slice u2 m2 d2] 24)) := (Below.refl _ _).alloc (Nat.le_refl _) _
  generalize w3.alloc (.cells #[.slice u1 m1 d1, .slice u2 m2 d2] 24) = V4 at *
  have HA4 : Hid (DL V4 w1.heap.size (.slice u1 m1 d1) X1) := HA.out.below hA4
  have HB4 : Hid (DL V4 w1.heap.size (.slice u2 m2 d2) X2) := HBB.out.below hA4
  have HV4 : Hid (Below w1.heap.size w1 V4) := HB3.out.trans (hA4.mono HB3.out.size)
  obtain ⟨z0, z1, -⟩ := rowTwo hR4
  have hz4 : w3.heap.size < V4.heap.size := (Array.getElem?_eq_some_iff.1 hR4).1
  clear hA4 hR4
  generalize w3.heap.size = B4 at *
  refine (HC2 V4 u1 u2 m1 m2 d1 d2 HA4.out.ls HB4.out.ls).mono ?_
  rintro x w5 ⟨rfl, b5⟩
  have HV5 : Hid (Below w1.heap.size w1 w5) := HV4.out.trans (b5.mono HV4.out.size)
  have HBW : Hid (Below w.heap.size w w5) := HB1.out.trans (HV5.out.mono HB1.out.size)
  have HA5 : Hid (DL w5 w1.heap.size (.slice u1 m1 d1) X1) := HA4.out.below b5
  have HB5 : Hid (DL w5 w1.heap.size (.slice u2 m2 d2) X2) := HB4.out.below b5
  have hRW : w5.heap[w.heap.size + 2]? = some (.cells #[.slice none 0 0, .slice none 0 0] 24 (0, 0)) := by rw [HV5.out.block _ hs1]; exact hR1
  have t0 := keeps b5 z0
  have t1 := keeps b5 z1
  have hs5 : B4 < w5.heap.size := Nat.lt_of_lt_of_le hz4 b5.size
  have hs6 : w.heap.size + 2 < w5.heap.size := Nat.lt_of_lt_of_le hs1 HV5.out.size
  clear b5 HC2 z0 z1 hR1
  obtain ⟨g0, g1, hf⟩ := rowTwo hRW
  have f0 := hf 0
  have f1 := hf 1
  have hg := grTwo w5 (w.heap.size + 2) (.slice none 0 0) (.slice none 0 0)
  have HPX := HERR.out _ (HBW.out.grown hg HBW.out.size (fun k hk => by cases hk; omega))
  have HHX : Hid (((w5.setCell ⟨w.heap.size + 2, 0, none⟩ (.slice none 0 0)).setCell ⟨w.heap.size + 2, 1, none⟩ (.slice none 0 0)).heap[w.heap.size + 2]? = some (.cells #[.slice none 0 0, .slice none 0 0] 24 (0, 0))) := setTwo hRW (.slice none 0 0) (.slice none 0 0)
  clear hf hg HERR hRW
  go_wp2_with fail
  generalize ((w5.setCell ⟨w.heap.size + 2, 0, none⟩ (.slice none 0 0)).setCell ⟨w.heap.size + 2, 1, none⟩ (.slice none 0 0)) = X at *
  obtain ⟨y0, y1, -⟩ := rowTwo HHX.out
  exact bodyPost_ret (v := .tuple #[.agg #[.slice none 0 0, .slice none 0 0], .iface 83 (.int .i64 k)]) (by simp [results, Tryz.results16, go_sem, y0, y1]) rfl HPX

set_option maxRecDepth 100000 in
set_option maxHeartbeats 2000000 in
theorem put_ok2 (s p : Int) (q1 q2 : Option Addr) (n1 n2 c1 c2 : Nat) (a b c d e : Int) (bs ss : List L) (w : World) (h1 : LS w (.slice q1 n1 c1) bs) (h2 : LS w (.slice q2 n2 c2) ss) (hs : ¬ s = 1) (h0 : bookE bs ss = 0) (ha : addE s ss p ⟨a, b, c, d, e⟩ = 0) (hb :  bookE (bs) (putL s p ⟨a, b, c, d, e⟩ ss) = 0) :
    Calls Tryz.prog 16 #[.agg #[.slice q1 n1 c1, .slice q2 n2 c2], .int .i64 s, .int .i64 p, .agg #[.int .i64 a, .int .i64 b, .int .i64 c, .int .i64 d, .int .i64 e]] w fun x w' => PutPostD bs ss s p ⟨a, b, c, d, e⟩ w x w' := by
  have HCH := fun W (hW : Below w.heap.size w W) => check_any q1 q2 n1 n2 c1 c2 bs ss W (h1.below hW) (h2.below hW)
  rw [h0, errV_zero] at HCH
  have hP1 : put1 bs s p ⟨a, b, c, d, e⟩ = bs := by unfold put1; rw [if_neg hs]
  have hP2 : put2 ss s p ⟨a, b, c, d, e⟩ = putL s p ⟨a, b, c, d, e⟩ ss := by unfold put2; rw [if_neg hs]
  have hE : putE bs ss s p ⟨a, b, c, d, e⟩ = bookE (bs) (putL s p ⟨a, b, c, d, e⟩ ss) := by unfold putE; rw [if_pos h0, if_neg hs, if_pos ha, hP1, hP2]
  obtain ⟨AL, hAL⟩ : ∃ AL, AL = putL s p ⟨a, b, c, d, e⟩ ss := ⟨_, rfl⟩
  obtain ⟨X1, hX1⟩ : ∃ X1, X1 = bs := ⟨_, rfl⟩
  obtain ⟨X2, hX2⟩ : ∃ X2, X2 = putL s p ⟨a, b, c, d, e⟩ ss := ⟨_, rfl⟩
  rw [← hX1, ← hX2] at hb
  have HAD : Hid (∀ W, Below w.heap.size w W → Calls Tryz.prog 48 #[.int .i64 s, .slice q2 n2 c2, .int .i64 p, .agg #[.int .i64 a, .int .i64 b, .int .i64 c, .int .i64 d, .int .i64 e]] W fun x w' => Below W.heap.size W w' ∧ ∃ q n cc, x = .returned (.tuple #[.slice q n cc, .nilIface]) ∧ DL w' W.heap.size (.slice q n cc) AL) := fun W hW => (add_any s _ ss p a b c d e W (h2.below hW)).mono fun x w' h => by
    obtain ⟨g1, v', g2, g3⟩ := h
    rw [ha, errV_zero] at g2
    unfold addL at g3
    rw [if_pos ha, ← hAL] at g3
    obtain ⟨q, n, cc, rfl⟩ := g3.form
    exact ⟨g1, q, n, cc, g2, g3⟩
  obtain ⟨k1, k2, -⟩ := book_zero h0
  have HWI : Hid (∀ W q3 n3 c3 b0, Below w.heap.size w W → b0 ≤ W.heap.size → DL W b0 (.slice q3 n3 c3) AL → Calls Tryz.prog 50 #[.agg #[.slice q1 n1 c1, .slice q2 n2 c2], .int .i64 s, .slice q3 n3 c3] W fun x w' => ∃ u1 u2 m1 m2 d1 d2, x = .returned (.agg #[.slice u1 m1 d1, .slice u2 m2 d2]) ∧ DL w' b0 (.slice u1 m1 d1) X1 ∧ DL w' b0 (.slice u2 m2 d2) X2 ∧ Below W.heap.size W w') := fun W q3 n3 c3 b0 hW hb0 hd => (with_any s q1 q2 q3 n1 n2 n3 c1 c2 c3 bs ss AL b0 W (h1.below hW) (h2.below hW) hd hb0 k1 k2).mono fun x w' h => by
    obtain ⟨u1, u2, m1, m2, d1, d2, g1, g2, g3, g4⟩ := h
    rw [if_neg hs] at g2 g3
    exact ⟨u1, u2, m1, m2, d1, d2, g1, by rw [hX1]; exact g2, by rw [hX2, ← hAL]; exact g3, g4⟩
  have HC2 := fun W u1 u2 m1 m2 d1 d2 (g1 : LS W (.slice u1 m1 d1) X1) (g2 : LS W (.slice u2 m2 d2) X2) => check_any u1 u2 m1 m2 d1 d2 X1 X2 W g1 g2
  rw [hb, errV_zero] at HC2
  have HOK : Hid (∀ W u1 u2 m1 m2 d1 d2, Below w.heap.size w W → DL W w.heap.size (.slice u1 m1 d1) X1 → DL W w.heap.size (.slice u2 m2 d2) X2 → PutPostD bs ss s p ⟨a, b, c, d, e⟩ w (.returned (.tuple #[.agg #[.slice u1 m1 d1, .slice u2 m2 d2], .nilIface])) W) := fun W u1 u2 m1 m2 d1 d2 hW g1 g2 => by
    have hz : putE bs ss s p ⟨a, b, c, d, e⟩ = 0 := by rw [hE, ← hX1, ← hX2]; exact hb
    exact ⟨u1, u2, m1, m2, d1, d2, by rw [hz, errV_zero], by rw [if_pos hz, hP1, ← hX1]; exact g1, by rw [if_pos hz, hP2, ← hX2]; exact g2, hW⟩
  obtain ⟨V, hV⟩ : ∃ V, V = ((w.alloc (.cells #[.slice q1 n1 c1, .slice q2 n2 c2] 24)).alloc (.cells #[.int .i64 a, .int .i64 b, .int .i64 c, .int .i64 d, .int .i64 e] 26)).alloc (.cells #[.slice none 0 0, .slice none 0 0] 24) := ⟨_, rfl⟩
  have HB : Hid (Below w.heap.size w V) := by rw [hV]; exact (((Below.refl _ _).alloc (Nat.le_refl _) _).alloc (by simp) _).alloc (by simp; omega) _
  have v0 : V.cell? ⟨w.heap.size, 0, none⟩ = some (.slice q1 n1 c1) := by rw [hV]; simp [go_sem]
  have v1 : V.cell? ⟨w.heap.size, 1, none⟩ = some (.slice q2 n2 c2) := by rw [hV]; simp [go_sem]
  have r0 : V.cell? ⟨w.heap.size + 1, 0, none⟩ = some (.int .i64 a) := by rw [hV]; simp [go_sem]
  have r1 : V.cell? ⟨w.heap.size + 1, 1, none⟩ = some (.int .i64 b) := by rw [hV]; simp [go_sem]
  have r2 : V.cell? ⟨w.heap.size + 1, 2, none⟩ = some (.int .i64 c) := by rw [hV]; simp [go_sem]
  have r3 : V.cell? ⟨w.heap.size + 1, 3, none⟩ = some (.int .i64 d) := by rw [hV]; simp [go_sem]
  have r4 : V.cell? ⟨w.heap.size + 1, 4, none⟩ = some (.int .i64 e) := by rw [hV]; simp [go_sem]
  have hR : V.heap[w.heap.size + 2]? = some (.cells #[.slice none 0 0, .slice none 0 0] 24 (0, 0)) := by
    rw [hV]
    have := heap_alloc_new ((w.alloc (.cells #[.slice q1 n1 c1, .slice q2 n2 c2] 24)).alloc (.cells #[.int .i64 a, .int .i64 b, .int .i64 c, .int .i64 d, .int .i64 e] 26)) (.cells #[.slice none 0 0, .slice none 0 0] 24)
    simpa using this
  have hVs : w.heap.size + 2 < V.heap.size := (Array.getElem?_eq_some_iff.1 hR).1
  generalize PutPostD bs ss s p ⟨a, b, c, d, e⟩ w = POST at *
  clear h0 h1 h2 ha hAL hX1 hX2 hP1 hP2 hE hb k1 k2
  go_enter Tryz.func16, Tryz.ntmps16
  go_wp2_with fail
  rw [← hV]
  refine (HCH V HB.out).mono ?_
  rintro x w1 ⟨rfl, b1⟩
  have HB1 : Hid (Below w.heap.size w w1) := HB.out.trans (b1.mono HB.out.size)
  have hR1 : w1.heap[w.heap.size + 2]? = some (.cells #[.slice none 0 0, .slice none 0 0] 24 (0, 0)) := by rw [b1.block _ hVs]; exact hR
  have x0 := keeps b1 v0
  have x1 := keeps b1 v1
  have y0 := keeps b1 r0
  have y1 := keeps b1 r1
  have y2 := keeps b1 r2
  have y3 := keeps b1 r3
  have y4 := keeps b1 r4
  have hs1 : w.heap.size + 2 < w1.heap.size := Nat.lt_of_lt_of_le hVs b1.size
  have HLV : Hid (∀ W, Below w1.heap.size w1 W → Calls Tryz.prog 49 #[.agg #[.slice q1 n1 c1, .slice q2 n2 c2], .int .i64 s] W fun e w' => e = .returned (.slice q2 n2 c2) ∧ Below w1.heap.size w1 w') := fun W hW => by
    have := levels_any s q1 q2 n1 n2 c1 c2 W
    rw [if_neg hs] at this
    exact this.mono fun e w' h => ⟨h.1, hW.trans (h.2.mono hW.size)⟩
  have HAD2 : Hid (∀ W, Below w1.heap.size w1 W → Calls Tryz.prog 48 #[.int .i64 s, .slice q2 n2 c2, .int .i64 p, .agg #[.int .i64 a, .int .i64 b, .int .i64 c, .int .i64 d, .int .i64 e]] W fun x w' => Below w1.heap.size w1 w' ∧ ∃ q n cc, x = .returned (.tuple #[.slice q n cc, .nilIface]) ∧ DL w' w1.heap.size (.slice q n cc) AL) := fun W hW => (HAD.out W (HB1.out.trans (hW.mono HB1.out.size))).mono fun x w' h => by obtain ⟨g1, q, n, cc, g2, g3⟩ := h; exact ⟨hW.trans (g1.mono hW.size), q, n, cc, g2, g3.mono hW.size⟩
  have SO : Hid (∀ W, Below w1.heap.size w1 W → (Below w1.heap.size w1 W ∧ W.cell? ⟨w.heap.size, 0, none⟩ = some (.slice q1 n1 c1) ∧ W.cell? ⟨w.heap.size, 1, none⟩ = some (.slice q2 n2 c2) ∧ W.cell? ⟨w.heap.size + 1, 0, none⟩ = some (.int .i64 a) ∧ W.cell? ⟨w.heap.size + 1, 1, none⟩ = some (.int .i64 b) ∧ W.cell? ⟨w.heap.size + 1, 2, none⟩ = some (.int .i64 c) ∧ W.cell? ⟨w.heap.size + 1, 3, none⟩ = some (.int .i64 d) ∧ W.cell? ⟨w.heap.size + 1, 4, none⟩ = some (.int .i64 e))) := fun W hW => ⟨hW, keeps hW x0, keeps hW x1, keeps hW y0, keeps hW y1, keeps hW y2, keeps hW y3, keeps hW y4⟩
  clear b1 HCH v0 v1 r0 r1 r2 r3 r4 hR HAD
  go_upto_region 4 with fail
  go_region_held3 (fun W => Below w1.heap.size w1 W ∧ W.cell? ⟨w.heap.size, 0, none⟩ = some (.slice q1 n1 c1) ∧ W.cell? ⟨w.heap.size, 1, none⟩ = some (.slice q2 n2 c2) ∧ W.cell? ⟨w.heap.size + 1, 0, none⟩ = some (.int .i64 a) ∧ W.cell? ⟨w.heap.size + 1, 1, none⟩ = some (.int .i64 b) ∧ W.cell? ⟨w.heap.size + 1, 2, none⟩ = some (.int .i64 c) ∧ W.cell? ⟨w.heap.size + 1, 3, none⟩ = some (.int .i64 d) ∧ W.cell? ⟨w.heap.size + 1, 4, none⟩ = some (.int .i64 e))
    ((refine SO.out _ ?_; (repeat' (first | with_reducible assumption | with_reducible refine bal ?_ _ | with_reducible refine Below.setCell ?_ ?_ _ | with_reducible refine Below.drew ?_ | with_reducible exact Below.refl _ _ | with_reducible exact Nat.le_refl _ | with_reducible exact Below.size (by with_reducible assumption) | with_reducible refine Nat.le_succ_of_le ?_))))
    (first | (go_at_call 49; with_reducible refine (HLV.out _ ?_).mono ?_; (repeat' (first | with_reducible assumption | with_reducible refine bal ?_ _ | with_reducible refine Below.setCell ?_ ?_ _ | with_reducible refine Below.drew ?_ | with_reducible exact Below.refl _ _ | with_reducible exact Nat.le_refl _ | with_reducible exact Below.size (by with_reducible assumption) | with_reducible refine Nat.le_succ_of_le ?_)); rintro x W ⟨rfl, hbn⟩) | (go_at_call 48; with_reducible refine (HAD2.out _ ?_).mono ?_; (repeat' (first | with_reducible assumption | with_reducible refine bal ?_ _ | with_reducible refine Below.setCell ?_ ?_ _ | with_reducible refine Below.drew ?_ | with_reducible exact Below.refl _ _ | with_reducible exact Nat.le_refl _ | with_reducible exact Below.size (by with_reducible assumption) | with_reducible refine Nat.le_succ_of_le ?_)); rintro x W ⟨hbn, q3, n3, c3, rfl, hL3⟩))
  have HB2 : Hid (Below w.heap.size w W) := HB1.out.trans (hbn.mono HB1.out.size)
  have HBN : Hid (Below w1.heap.size w1 W) := hbn
  have HL3 : Hid (DL W w1.heap.size (.slice q3 n3 c3) AL) := hL3
  have x0' := keeps hbn x0
  have x1' := keeps hbn x1
  have hs2 : w.heap.size + 2 < W.heap.size := Nat.lt_of_lt_of_le hs1 hbn.size
  clear hbn hL3 SO HLV HAD2 x0 x1 y0 y1 y2 y3 y4
  go_wp2_with fail
  refine (HWI.out W q3 n3 c3 w1.heap.size HB2.out HBN.out.size HL3.out).mono ?_
  rintro x w3 ⟨u1, u2, m1, m2, d1, d2, rfl, hA, hB', b3⟩
  have HB3 : Hid (Below w1.heap.size w1 w3) := HBN.out.trans (b3.mono HBN.out.size)
  have HA : Hid (DL w3 w1.heap.size (.slice u1 m1 d1) X1) := hA
  have HBB : Hid (DL w3 w1.heap.size (.slice u2 m2 d2) X2) := hB'
  clear hA hB' b3 HWI x0' x1'
  go_wp2_with fail
  have hR4 := heap_alloc_new w3 (.cells #[.slice u1 m1 d1, .slice u2 m2 d2] 24)
  have hA4 : Below w3.heap.size w3 (w3.alloc (.cells #[.slice u1 m1 d1, .slice u2 m2 d2] 24)) := (Below.refl _ _).alloc (Nat.le_refl _) _
  generalize w3.alloc (.cells #[.slice u1 m1 d1, .slice u2 m2 d2] 24) = V4 at *
  have HA4 : Hid (DL V4 w1.heap.size (.slice u1 m1 d1) X1) := HA.out.below hA4
  have HB4 : Hid (DL V4 w1.heap.size (.slice u2 m2 d2) X2) := HBB.out.below hA4
  have HV4 : Hid (Below w1.heap.size w1 V4) := HB3.out.trans (hA4.mono HB3.out.size)
  obtain ⟨z0, z1, -⟩ := rowTwo hR4
  have hz4 : w3.heap.size < V4.heap.size := (Array.getElem?_eq_some_iff.1 hR4).1
  clear hA4 hR4
  generalize w3.heap.size = B4 at *
  refine (HC2 V4 u1 u2 m1 m2 d1 d2 HA4.out.ls HB4.out.ls).mono ?_
  rintro x w5 ⟨rfl, b5⟩
  have HV5 : Hid (Below w1.heap.size w1 w5) := HV4.out.trans (b5.mono HV4.out.size)
  have HBW : Hid (Below w.heap.size w w5) := HB1.out.trans (HV5.out.mono HB1.out.size)
  have HA5 : Hid (DL w5 w1.heap.size (.slice u1 m1 d1) X1) := HA4.out.below b5
  have HB5 : Hid (DL w5 w1.heap.size (.slice u2 m2 d2) X2) := HB4.out.below b5
  have hRW : w5.heap[w.heap.size + 2]? = some (.cells #[.slice none 0 0, .slice none 0 0] 24 (0, 0)) := by rw [HV5.out.block _ hs1]; exact hR1
  have t0 := keeps b5 z0
  have t1 := keeps b5 z1
  have hs5 : B4 < w5.heap.size := Nat.lt_of_lt_of_le hz4 b5.size
  have hs6 : w.heap.size + 2 < w5.heap.size := Nat.lt_of_lt_of_le hs1 HV5.out.size
  clear b5 HC2 z0 z1 hR1
  obtain ⟨g0, g1, hf⟩ := rowTwo hRW
  have f0 := hf 0
  have f1 := hf 1
  have hg := grTwo w5 (w.heap.size + 2) (.slice u1 m1 d1) (.slice u2 m2 d2)
  have HPX := HOK.out _ u1 u2 m1 m2 d1 d2 (HBW.out.grown hg HBW.out.size (fun k hk => by cases hk; omega)) ((DL.other HA5.out hg hs1).mono HB1.out.size) ((DL.other HB5.out hg hs1).mono HB1.out.size)
  have HHX : Hid (((w5.setCell ⟨w.heap.size + 2, 0, none⟩ (.slice u1 m1 d1)).setCell ⟨w.heap.size + 2, 1, none⟩ (.slice u2 m2 d2)).heap[w.heap.size + 2]? = some (.cells #[.slice u1 m1 d1, .slice u2 m2 d2] 24 (0, 0))) := setTwo hRW _ _
  clear hf hg HOK hRW
  go_wp2_with fail
  generalize ((w5.setCell ⟨w.heap.size + 2, 0, none⟩ (.slice u1 m1 d1)).setCell ⟨w.heap.size + 2, 1, none⟩ (.slice u2 m2 d2)) = X at *
  obtain ⟨y0, y1, -⟩ := rowTwo HHX.out
  exact bodyPost_ret (v := .tuple #[.agg #[.slice u1 m1 d1, .slice u2 m2 d2], .nilIface]) (by simp [results, Tryz.results16, go_sem, y0, y1]) rfl HPX

/-- Put, at every book, side, price and rest. -/
theorem put_anyD (s p : Int) (q1 q2 : Option Addr) (n1 n2 c1 c2 : Nat) (a b c d e : Int) (bs ss : List L) (w : World) (h1 : LS w (.slice q1 n1 c1) bs) (h2 : LS w (.slice q2 n2 c2) ss) :
    Calls Tryz.prog 16 #[.agg #[.slice q1 n1 c1, .slice q2 n2 c2], .int .i64 s, .int .i64 p, .agg #[.int .i64 a, .int .i64 b, .int .i64 c, .int .i64 d, .int .i64 e]] w fun x w' => PutPostD bs ss s p ⟨a, b, c, d, e⟩ w x w' := by
  by_cases h0 : bookE bs ss = 0
  · by_cases hs : s = 1
    · subst hs
      by_cases ha : addE 1 bs p ⟨a, b, c, d, e⟩ = 0
      · by_cases hb : bookE (putL 1 p ⟨a, b, c, d, e⟩ bs) ss = 0
        · exact put_ok1 p q1 q2 n1 n2 c1 c2 a b c d e bs ss w h1 h2 h0 ha hb
        · exact put_err1 p q1 q2 n1 n2 c1 c2 a b c d e bs ss w h1 h2 h0 ha hb
      · exact put_add1 p q1 q2 n1 n2 c1 c2 a b c d e bs ss w h1 h2 h0 ha
    · by_cases ha : addE s ss p ⟨a, b, c, d, e⟩ = 0
      · by_cases hb : bookE bs (putL s p ⟨a, b, c, d, e⟩ ss) = 0
        · exact put_ok2 s p q1 q2 n1 n2 c1 c2 a b c d e bs ss w h1 h2 hs h0 ha hb
        · exact put_err2 s p q1 q2 n1 n2 c1 c2 a b c d e bs ss w h1 h2 hs h0 ha hb
      · exact put_add2 s p q1 q2 n1 n2 c1 c2 a b c d e bs ss w h1 h2 hs h0 ha
  · exact put_book s p q1 q2 n1 n2 c1 c2 a b c d e bs ss w h1 h2 h0
def PutPost (bs ss : List L) (s p : Int) (r : R) (w : World) (e : Ending) (w' : World) : Prop :=
  ∃ q1 q2 n1 n2 c1 c2, e = .returned (.tuple #[.agg #[.slice q1 n1 c1, .slice q2 n2 c2], errV (putE bs ss s p r)]) ∧ LS w' (.slice q1 n1 c1) (if putE bs ss s p r = 0 then put1 bs s p r else []) ∧ LS w' (.slice q2 n2 c2) (if putE bs ss s p r = 0 then put2 ss s p r else []) ∧ Below w.heap.size w w'
theorem put_any (s p : Int) (q1 q2 : Option Addr) (n1 n2 c1 c2 : Nat) (a b c d e : Int) (bs ss : List L) (w : World) (h1 : LS w (.slice q1 n1 c1) bs) (h2 : LS w (.slice q2 n2 c2) ss) :
    Calls Tryz.prog 16 #[.agg #[.slice q1 n1 c1, .slice q2 n2 c2], .int .i64 s, .int .i64 p, .agg #[.int .i64 a, .int .i64 b, .int .i64 c, .int .i64 d, .int .i64 e]] w fun x w' => PutPost bs ss s p ⟨a, b, c, d, e⟩ w x w' :=
  (put_anyD s p q1 q2 n1 n2 c1 c2 a b c d e bs ss w h1 h2).mono fun _ _ ⟨u1, u2, m1, m2, d1, d2, g1, g2, g3, g4⟩ => ⟨u1, u2, m1, m2, d1, d2, g1, g2.ls, g3.ls, g4⟩
end Go.Proofs.YtpbbgbjgndikdaaGreatDoor.bok
namespace Go.Proofs.YtpbbgbjgndikdaaGreatDoor.sid
open Go.RowKit Go.Proofs.YtpbbgbjgndikdaaGreatDoor.spn Go.Proofs.YtpbbgbjgndikdaaGreatDoor.que Go.Maps
open Go.Proofs.YtpbbgbjgndikdaaGreatDoor.tickP (priceB sideB)

theorem add_zero {s : Int} {ls : List L} {p : Int} {r : R} (h : addE s ls p r = 0) : schk s ls = 0 ∧ priceB p = true ∧ rchk r = 0 ∧ r.id ∉ ids ls ∧ cnt ls ≠ 60 := by
  unfold addE at h
  by_cases h0 : schk s ls = 0
  · rw [if_pos h0] at h
    by_cases h1 : priceB p = true
    · rw [if_pos h1] at h
      by_cases h2 : rchk r = 0
      · rw [if_pos h2] at h
        by_cases h3 : r.id ∈ ids ls
        · rw [if_pos h3] at h; cases h
        · rw [if_neg h3] at h
          by_cases h4 : cnt ls = 60
          · rw [if_pos h4] at h; cases h
          · exact ⟨h0, h1, h2, h3, h4⟩
      · rw [if_neg h2] at h; exact absurd h h2
    · rw [if_neg h1] at h; cases h
  · rw [if_neg h0] at h; exact absurd h h0
/-- What an Add that went well gives. -/
theorem add_facts {s : Int} {ls : List L} {p : Int} {r : R} (h : addE s ls p r = 0) : schk s (putL s p r ls) = 0 ∧ ∃ i k : Nat, i < (putL s p r ls).length ∧ (putL s p r ls)[i]!.price = p ∧ k + 1 = (putL s p r ls)[i]!.rests.length ∧ (putL s p r ls)[i]!.rests[k]! = r ∧
    findE s (putL s p r ls) r.id = 0 ∧ findP s (putL s p r ls) r.id = ((i : Int), (k : Int)) ∧ dropL (putL s p r ls) i k = ls := by
  obtain ⟨h0, h1, h2, h3, h4⟩ := add_zero h
  obtain ⟨z1, z2, z3, z4⟩ := schk_zero h0
  have hs := schk_put h0 h1 h2 h3 (by omega)
  obtain ⟨y1, y2, y3, y4⟩ := schk_zero hs
  obtain ⟨i, k, hi, hk, e1, e2, e3, e4⟩ := drop_put (s := s) (p := p) (r := r) (ls := ls) (sgo_each z2)
  have hl := last_at y4 hi hk
  rw [e2] at hl
  have hf : findE s (putL s p r ls) r.id = 0 := by unfold findE; rw [if_pos hs, hl]; rfl
  refine ⟨hs, i, k, hi, by rw [getE _ _ hi]; exact e1, by rw [getE _ _ hi]; exact e3, by rw [getE _ _ hi, getE _ _ hk]; exact e2, hf, ?_, e4⟩
  unfold findP; rw [if_pos hf, hl]; rfl
end Go.Proofs.YtpbbgbjgndikdaaGreatDoor.sid
namespace Go.Proofs.YtpbbgbjgndikdaaGreatDoor.bok
open Go.RowKit Go.Proofs.YtpbbgbjgndikdaaGreatDoor.spn Go.Proofs.YtpbbgbjgndikdaaGreatDoor.que Go.Proofs.YtpbbgbjgndikdaaGreatDoor.sid
open Go.Proofs.YtpbbgbjgndikdaaGreatDoor.tickP (priceB sideB)

theorem put_zero {bs ss : List L} {s p : Int} {r : R} (h : putE bs ss s p r = 0) : bookE bs ss = 0 ∧ addE s (if s = 1 then bs else ss) p r = 0 ∧ bookE (put1 bs s p r) (put2 ss s p r) = 0 := by
  unfold putE at h
  by_cases h0 : bookE bs ss = 0
  · rw [if_pos h0] at h
    by_cases h1 : addE s (if s = 1 then bs else ss) p r = 0
    · rw [if_pos h1] at h; exact ⟨h0, h1, h⟩
    · rw [if_neg h1] at h; exact absurd h h1
  · rw [if_neg h0] at h; exact absurd h h0
theorem put_side {bs ss : List L} {s p : Int} {r : R} (h : putE bs ss s p r = 0) : s = 1 ∨ s = 2 := by
  have := (schk_zero (add_zero (put_zero h).2.1).1).1
  simpa [sideB] using this
theorem top_apart {bs ss : List L} (h : bookE bs ss = 0) : bestI bs = 0 ∨ bestI ss = 0 ∨ bestI bs < bestI ss := by
  obtain ⟨-, -, hx, -, -⟩ := book_zero h
  cases bs with
  | nil => exact .inl rfl
  | cons x t =>
    cases ss with
    | nil => exact .inr (.inl rfl)
    | cons y u =>
      right; right
      unfold crossB at hx
      simp at hx
      omega
/-- What is known of a book behind a Put that went well, on the side at which it came. -/
structure Held (S : Int) (X bs : List L) (p : Int) (r : R) (i k : Nat) : Prop where
  hi : i < X.length
  hk : k < X[i].rests.length
  price : X[i].price = p
  rest : X[i].rests[k] = r
  fe : findE S X r.id = 0
  fp : findP S X r.id = ((i : Int), (k : Int))
  drop : dropL X i k = bs
theorem held_of {s p : Int} {r : R} {ls : List L} (h : addE s ls p r = 0) : ∃ i k, Held s (putL s p r ls) ls p r i k := by
  obtain ⟨hs, i, k, hi, e1, e2, e3, e4, e5, e6⟩ := add_facts h
  have hk : k < (putL s p r ls)[i].rests.length := by rw [getE _ _ hi] at e2; omega
  refine ⟨i, k, hi, hk, by rw [getE _ _ hi] at e1; exact e1, ?_, e4, e5, e6⟩
  rw [getE _ _ hi, getE _ _ hk] at e3
  exact e3
theorem count_put (s p : Int) (r : R) (a ls : List L) : (allR a ++ allR (putL s p r ls)).length = (allR a ++ allR ls).length + 1 ∧ (allR (putL s p r ls) ++ allR a).length = (allR ls ++ allR a).length + 1 := by
  have := (put_perm s p r ls).length_eq
  simp only [List.length_append, this, List.length_cons]
  omega
/-- An id that is among the Sells is not among the Buys. -/
theorem not_buy {bs ss : List L} (h : bookE bs ss = 0) {i k : Nat} (hi : i < ss.length) (hk : k < ss[i].rests.length) : findE 1 bs ss[i].rests[k].id = 5 := by
  obtain ⟨h1, -, -, ht, -⟩ := book_zero h
  unfold twiceB at ht
  simp only [decide_eq_false_iff_not, Classical.not_not] at ht
  rw [List.map_append, List.nodup_append] at ht
  have hm : ss[i].rests[k] ∈ allR ss := List.mem_flatMap.2 ⟨ss[i], List.getElem_mem hi, List.getElem_mem hk⟩
  have hn : ss[i].rests[k].id ∉ ids bs := fun e => by
    rw [ids_allR] at e
    exact ht.2.2 _ e _ (List.mem_map.2 ⟨_, hm, rfl⟩) rfl
  have : lastAt (flatP 0 bs) ss[i].rests[k].id = none := by
    cases hl : lastAt (flatP 0 bs) ss[i].rests[k].id with
    | none => rfl
    | some t => exact absurd (id_ids.2 (by rw [hl]; simp)) hn
  unfold findE
  rw [if_pos h1, this]
  rfl
end Go.Proofs.YtpbbgbjgndikdaaGreatDoor.bok
