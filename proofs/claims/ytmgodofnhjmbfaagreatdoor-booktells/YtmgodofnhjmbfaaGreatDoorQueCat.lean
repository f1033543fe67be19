/- Contracts over this seat's translation: side.places at every side; side.Check, side.Best, side.Find. Contracts over this seat's translation: side.Best, side.Find. Contracts over this seat's translation: slices.Grow of nil, and slices.Concat, at queues. -/
import Derived.Test.YtmgodofnhjmbfaaGreatDoorSidPlace
import Derived.Test.YtmgodofnhjmbfaaGreatDoorQueOwn
namespace Go.Proofs.YtmgodofnhjmbfaaGreatDoor.sid
open Go.RowKit Go.Proofs.YtmgodofnhjmbfaaGreatDoor.spn Go.Proofs.YtmgodofnhjmbfaaGreatDoor.que Go.Maps
open Go.Proofs.YtmgodofnhjmbfaaGreatDoor.tickP (priceB sideB betOk betR)

theorem schk_none {s : Int} (h : sideB s = true) : schk s [] = 0 := schk_ok h rfl (by simp [cnt]) (by simp [ids, flatP])
set_option maxRecDepth 100000 in
set_option maxHeartbeats 1000000 in
theorem places_nil (s : Int) (w : World) (hk : sideB s = true) :
    Calls Tryz.prog 47 #[.int .i64 s, .slice none 0 0] w fun e w' => PlacesPost s [] w e w' := by
  have HS : Hid ([(s, 1, 2)].any spanB = false) := by have := side_span s; rw [hk] at this; exact this
  have HOK : Hid (∀ W B, Below w.heap.size w W → w.heap.size ≤ B → Own W B [] → PlacesPost s [] w (.returned (.tuple #[.map (some B), .nilIface])) W) := fun W B hW hB hO => ⟨hW, .inr ⟨schk_none hk, B, hB, rfl, hO⟩⟩
  generalize PlacesPost s [] w = POST at *
  clear hk
  go_enter Tryz.func47, Tryz.ntmps47
  go_wp2_with fail
  refine (side_any s w).mono ?_
  rintro e w1 ⟨rfl, h1⟩
  go_wp2_with fail
  refine (scheck1 false _ _ _ _ _ rfl HS.out).mono ?_
  rintro e w2 ⟨rfl, h2⟩
  simp only [show errV (rangeE false) = .nilIface from rfl]
  have HD : Hid (Below w.heap.size w w2) := h1.trans (h2.mono h1.size)
  clear h1 h2
  go_wp2_with fail
  go_loopg [7, 8, 9, 21] 0 (fun _ _ _ _ s21 wr => s21 = .int .i64 0 ∧ Aside (Below w.heap.size w wr))
  case atStart => exact ⟨rfl, HD.out⟩
  case round =>
    obtain ⟨rfl, BW⟩ := hrel
    go_wp2_with fail
    refine (count_nil _).mono ?_
    rintro e w3 ⟨rfl, h3⟩
    have HW3 : Hid (Below w.heap.size w w3) := BW.out.trans (h3.mono BW.out.size)
    clear h3
    go_wp2_with fail
    refine (see_nil _).mono ?_
    rintro e w4 ⟨rfl, hO, h4⟩
    have HW4 : Hid (Below w.heap.size w w4) := HW3.out.trans (h4.mono HW3.out.size)
    have HX := HOK.out _ _ HW4.out HW3.out.size hO
    have hown : w4.ownsMap Tryz.prog 3 plR w3.heap.size 0 (.map []) := hO
    have hsz : Maps.size (.map [] : DataW Unit) = 0 := rfl
    clear h4 hO
    generalize w3.heap.size = B at *
    go_wp2_with (at_len; refine wpList_len_own _ rfl _ 85 rfl 3 102 Tryz.underlying85 plR B _ _ rfl hown ?_; rw [hsz])
    exact HX
/-- places, at every side. -/
theorem places_any (s : Int) (v : Value) (ls : List L) (w : World) (h : LS w v ls) :
    Calls Tryz.prog 47 #[.int .i64 s, v] w fun e w' => PlacesPost s ls w e w' := by
  cases hk : sideB s
  · rcases h with ⟨rfl, rfl⟩ | ⟨b, o, c, rfl, h2, h3, h4, h5⟩
    · exact places_side s none 0 0 [] w hk
    · exact places_side s (some ⟨b, o, none⟩) _ c ls w hk
  · rcases h with ⟨rfl, rfl⟩ | ⟨b, o, c, rfl, h2, h3, h4, h5⟩
    · exact places_nil s w hk
    · exact places_some s b o c ls w h4 h2 h3 h5 hk

/-- Check, at every side. -/
theorem scheckS_any (s : Int) (v : Value) (ls : List L) (w : World) (h : LS w v ls) :
    Calls Tryz.prog 25 #[.int .i64 s, v] w fun e w' => e = .returned (errV (schk s ls)) ∧ Below w.heap.size w w' := by
  have hcon := places_any s v ls w h
  generalize hQ : schk s ls = Q
  have HP : Hid (∀ e w', PlacesPost s ls w e w' → Below w.heap.size w w' ∧ ∃ m, e = .returned (.tuple #[.map m, errV Q])) := fun e w' hp => by
    obtain ⟨h1, ⟨_, h3⟩ | ⟨h2, B, _, h3, _⟩⟩ := hp
    · rw [hQ] at h3; exact ⟨h1, _, h3⟩
    · rw [hQ] at h2; rw [h2]; exact ⟨h1, _, h3⟩
  clear h hQ
  generalize errV Q = E at *
  go_enter Tryz.func25, Tryz.ntmps25
  go_wp2_with fail
  refine hcon.mono ?_
  rintro e w1 hp
  obtain ⟨h1, m, rfl⟩ := HP.out _ _ hp
  clear hcon HP hp
  go_wp2_with fail
  go_ret
  exact ⟨rfl, h1⟩
end Go.Proofs.YtmgodofnhjmbfaaGreatDoor.sid
namespace Go.Proofs.YtmgodofnhjmbfaaGreatDoor.sid
open Go.RowKit Go.Proofs.YtmgodofnhjmbfaaGreatDoor.spn Go.Proofs.YtmgodofnhjmbfaaGreatDoor.que Go.Maps
open Go.Proofs.YtmgodofnhjmbfaaGreatDoor.tickP (priceB sideB betOk betR)

/-- The best price, and what is wrong. -/
def bestE (s : Int) (ls : List L) : Int := if schk s ls = 0 then (if ls = [] then 5 else 0) else schk s ls
def bestP (s : Int) (ls : List L) : Int := if bestE s ls = 0 then ls[0]!.price else 0

theorem zeroPl (w : World) : (zeroValue 102).run Tryz.prog w = .ok (.agg #[.int .i64 0, .int .i64 0]) w := by kernel_rfl
/-- 'p, there := seen[id]', with its answer written out. -/
theorem lookup_place {P : Program} (w : World) {ops : Array Oper} {rest : List Oper} {o : Oper} {a : Act} {Q : Exit → Act → World → Prop}
    (hg : o.guard = none) (m x : Operand) (t : TypeId) (hop : o.op = Op.lookup t m x true)
    (k e : TypeId) (K : Keyed P k) (ht : P.underlying t = some (.map k e)) (hz : (zeroValue e).run P w = .ok (.agg #[.int .i64 0, .int .i64 0]) w) (b n : Nat) (D : DataW Unit)
    (hm : a.eval m = .map (some b)) (hown : w.ownsMap P k plR b n D) (key : Value) (kl : Lit) (hx : a.eval x = key) (hkey : keyOf P k key = some kl)
    (i j : Int) (th : Bool) (hat : D.atKey kl (plD 0 0) = plD i j) (hth : Maps.has D kl = th)
    (hK : wpList P ops Q rest (a.put o.dst (.tuple #[.agg #[.int .i64 i, .int .i64 j], .bool th])) w) :
    wpList P ops Q (o :: rest) a w :=
  wpList_lookup_own_ok w hg m x t hop k e K ht plR hz (plD 0 0) [] (plR_mk 0 0) b n D hm hown key kl hx hkey (fun v ps hv => by
    rw [hat] at hv
    rw [plR_inv hv, hth]
    exact hK)

/-- Where an id stands. -/
def findE (s : Int) (ls : List L) (id : Int) : Int := if schk s ls = 0 then (if (lastAt (flatP 0 ls) id).isSome = true then 0 else 5) else schk s ls
def findP (s : Int) (ls : List L) (id : Int) : Int × Int := if findE s ls id = 0 then ((lastAt (flatP 0 ls) id).getD (0, 0, 0)).2 else (0, 0)
theorem has_last (ps : List P3) (id : Int) : Maps.has (mapD ps) (.int .i64 id) = (lastAt ps id).isSome := by
  rw [mapD_has, Bool.eq_iff_iff, lastAt, List.find?_isSome]
  simp
theorem at_last (ps : List P3) (id : Int) : (mapD ps).atKey (.int .i64 id) (plD 0 0) = plD ((lastAt ps id).getD (0, 0, 0)).2.1 ((lastAt ps id).getD (0, 0, 0)).2.2 := by
  rw [mapD_at]; cases lastAt ps id <;> rfl

/-- What Find answers. -/
def findV (s : Int) (ls : List L) (id : Int) : Value := .tuple #[.int .i64 (findP s ls id).1, .int .i64 (findP s ls id).2, errV (findE s ls id)]
theorem find_bad {s : Int} {ls : List L} {id : Int} (h : ¬ schk s ls = 0) : findV s ls id = .tuple #[.int .i64 0, .int .i64 0, errV (schk s ls)] := by
  have e : findE s ls id = schk s ls := if_neg h
  unfold findV findP; rw [e, if_neg h]
theorem find_none {s : Int} {ls : List L} {id : Int} (h : schk s ls = 0) (h2 : lastAt (flatP 0 ls) id = none) : findV s ls id = .tuple #[.int .i64 0, .int .i64 0, .iface 60 (.int .i64 5)] := by
  have e : findE s ls id = 5 := by unfold findE; rw [if_pos h, h2]; rfl
  unfold findV findP; rw [e]; rfl
theorem find_one {s : Int} {ls : List L} {id : Int} (h : schk s ls = 0) {x : P3} (h2 : lastAt (flatP 0 ls) id = some x) : findV s ls id = .tuple #[.int .i64 x.2.1, .int .i64 x.2.2, .nilIface] := by
  have e : findE s ls id = 0 := by unfold findE; rw [if_pos h, h2]; rfl
  unfold findV findP; rw [e, h2]; rfl

set_option maxRecDepth 100000 in
set_option maxHeartbeats 1000000 in
theorem find_any (s : Int) (v : Value) (ls : List L) (id : Int) (w : World) (h : LS w v ls) (hid : (Lit.int .i64 id).wf = true) :
    Calls Tryz.prog 40 #[.int .i64 s, v, .int .i64 id] w fun e w' => e = .returned (findV s ls id) ∧ Below w.heap.size w w' := by
  have hcon := places_any s v ls w h
  have hkey : keyOf Tryz.prog 3 (.int .i64 id) = some (.int .i64 id) := keyOf_int_mk Tryz.underlying3 hid
  clear h hid
  by_cases h0 : schk s ls = 0
  · have HP : Hid (∀ e w', PlacesPost s ls w e w' → Below w.heap.size w w' ∧ ∃ B, e = .returned (.tuple #[.map (some B), .nilIface]) ∧ Own w' B (flatP 0 ls)) := fun e w' hp => by
      obtain ⟨h1, ⟨h2, _⟩ | ⟨_, B, _, h3, h4⟩⟩ := hp
      · exact absurd h0 h2
      · exact ⟨h1, B, h3, h4⟩
    have hh := has_last (flatP 0 ls) id
    have ha := at_last (flatP 0 ls) id
    cases hl : lastAt (flatP 0 ls) id with
    | none =>
      rw [find_none h0 hl]
      rw [hl] at hh ha
      simp only [Option.isSome_none, Option.getD_none] at hh ha
      clear h0 hl
      go_enter Tryz.func40, Tryz.ntmps40
      go_wp2_with fail
      refine hcon.mono ?_
      rintro e w1 hp
      obtain ⟨h1, B, rfl, hO⟩ := HP.out _ _ hp
      have hown : w1.ownsMap Tryz.prog 3 plR B (flatP 0 ls).length (mapD (flatP 0 ls)) := hO
      clear hcon HP hp hO
      go_wp2_with (at_lookup; refine lookup_place _ rfl _ _ 85 rfl 3 102 lawI Tryz.underlying85 (zeroPl _) B _ _ rfl hown _ _ rfl hkey _ _ _ ha hh ?_)
      go_ret3
      exact ⟨rfl, by first | exact h1 | exact h1.alloc h1.size _⟩
    | some x =>
      rw [find_one h0 hl]
      rw [hl] at hh ha
      simp only [Option.isSome_some, Option.getD_some] at hh ha
      obtain ⟨x1, x2, x3⟩ := x
      simp only [] at hh ha ⊢
      clear h0 hl
      go_enter Tryz.func40, Tryz.ntmps40
      go_wp2_with fail
      refine hcon.mono ?_
      rintro e w1 hp
      obtain ⟨h1, B, rfl, hO⟩ := HP.out _ _ hp
      have hown : w1.ownsMap Tryz.prog 3 plR B (flatP 0 ls).length (mapD (flatP 0 ls)) := hO
      clear hcon HP hp hO
      go_wp2_with (at_lookup; refine lookup_place _ rfl _ _ 85 rfl 3 102 lawI Tryz.underlying85 (zeroPl _) B _ _ rfl hown _ _ rfl hkey _ _ _ ha hh ?_)
      go_quiet (fail)
      go_wp2_with fail
      go_ret3
      exact ⟨rfl, by first | exact h1 | exact h1.alloc h1.size _ | exact belowN (h1.alloc h1.size _) _⟩
  · rw [find_bad h0, errV_of h0]
    have HP : Hid (∀ e w', PlacesPost s ls w e w' → Below w.heap.size w w' ∧ e = .returned (.tuple #[.map none, .iface 60 (.int .i64 (schk s ls))])) := fun e w' hp => by
      obtain ⟨h1, ⟨_, h3⟩ | ⟨h2, _⟩⟩ := hp
      · rw [errV_of h0] at h3; exact ⟨h1, h3⟩
      · exact absurd h2 h0
    generalize schk s ls = k at HP ⊢
    clear h0
    go_enter Tryz.func40, Tryz.ntmps40
    go_wp2_with fail
    refine hcon.mono ?_
    rintro e w1 hp
    obtain ⟨h1, rfl⟩ := HP.out _ _ hp
    clear hcon HP hp
    go_wp2_with fail
    go_ret3
    exact ⟨rfl, h1⟩
end Go.Proofs.YtmgodofnhjmbfaaGreatDoor.sid
namespace Go.Proofs.YtmgodofnhjmbfaaGreatDoor.que
open Go.RowKit Go.Proofs.YtmgodofnhjmbfaaGreatDoor.spn

def zeroR : Value := .agg #[.int .i64 0, .int .i64 0, .int .i64 0, .int .i64 0, .int .i64 0]
theorem infoR : (Tryz.prog.info? 26).map (fun i => (i.zero, i.size, i.bytes)) = some (some zeroR, 5, 40) := by kernel_rfl
theorem infoR' : ∃ i, Tryz.prog.info? 26 = some i ∧ i.zero = some zeroR ∧ i.size = 5 ∧ i.bytes = 40 := by
  have h := infoR
  cases hq : Tryz.prog.info? 26 with
  | none => rw [hq] at h; simp at h
  | some i =>
    rw [hq] at h
    simp only [Option.map_some, Option.some.injEq, Prod.mk.injEq] at h
    exact ⟨i, rfl, h.1, h.2.1, h.2.2⟩

theorem grow_nil0 (w : World) :
    Calls Tryz.prog 97 #[.slice none 0 0, .int .i64 0] w fun e w' => e = .returned (.slice none 0 0) ∧ w' = w := by
  go_enter Tryz.func97, Tryz.ntmps97
  go_wp2
  go_ret
  exact ⟨rfl, rfl⟩

set_option maxHeartbeats 1000000 in
theorem grow_nil (n : Nat) (hn : 0 < n) (hm : n ≤ 100000) (w : World) :
    Calls Tryz.prog 97 #[.slice none 0 0, .int .i64 n] w fun e w' => ∃ v, e = .returned v ∧ OwnQ w' w.heap.size v [] ∧ Below w.heap.size w w' := by
  obtain ⟨i, hi, hz, hs, hby⟩ := infoR'
  have hr := Lib.run_append_nil_zeros (P := Tryz.prog) w 32 3 32 26 i zeroR .i64 .i64 Tryz.underlying32 Tryz.underlying3 hi hz n hn (by rw [hs]; omega) (by omega) (by rw [hby]; omega)
  have hge := grownCap_ge w n 0 26
  have hcm := grownCap_le_maxLen w n 0 26 (by unfold maxLen; omega)
  have hsz : (Builtin.zeroCells zeroR.cells n ++ Builtin.zeroCells zeroR.cells (grownCap w n 0 26 - n)).size = grownCap w n 0 26 * 5 := by
    rw [Array.size_append, size_zeroCells, size_zeroCells]
    show n * 5 + (grownCap w n 0 26 - n) * 5 = _
    omega
  have hO : OwnQ (w.drew.alloc (.cells (Builtin.zeroCells zeroR.cells n ++ Builtin.zeroCells zeroR.cells (grownCap w n 0 26 - n)) 26)) w.heap.size (.slice (some ⟨w.heap.size, 0, none⟩) 0 (grownCap w n 0 26)) [] :=
    ⟨rfl, .inr ⟨w.heap.size, 0, _, _, rfl, Nat.le_refl _, heap_alloc_new w.drew _, Nat.zero_le _, hcm, by rw [hsz]; omega, by simp [flat]⟩⟩
  have hB : Below w.heap.size w (w.drew.alloc (.cells (Builtin.zeroCells zeroR.cells n ++ Builtin.zeroCells zeroR.cells (grownCap w n 0 26 - n)) 26)) := (Below.refl _ _).drew.alloc (Nat.le_refl _) _
  generalize w.drew.alloc (.cells (Builtin.zeroCells zeroR.cells n ++ Builtin.zeroCells zeroR.cells (grownCap w n 0 26 - n)) 26) = W at *
  generalize grownCap w n 0 26 = cap at *
  have HR : Hid ((Builtin.append_ #[32, 3] 32 #[.slice none 0 0, .int .i64 n]).run Tryz.prog w = .ok (.slice (some ⟨w.heap.size, 0, none⟩) n cap) W) := hr
  have h0 : ¬ ((n : Int) < 0) := by omega
  have h1 : (0 : Int) < (n : Int) := by omega
  have h2 : wrap64 (n : Int) = n := by unfold wrap64; omega
  have h3 : ¬ cap = 0 := by omega
  clear hr hsz hi hz hs hby
  go_enter Tryz.func97, Tryz.ntmps97
  go_wp2_with (at_builtin; refine Lib.wpList_append_run _ rfl _ _ _ _ rfl _ _ rfl rfl _ _ HR.out ?_)
  go_ret
  exact ⟨_, rfl, hO, hB⟩

theorem SL.form {w : World} {v : Value} {zs : List R} (h : SL w v zs) : ∃ p c, v = .slice p zs.length c := by
  rcases h with ⟨rfl, rfl⟩ | ⟨b, o, c, h1, _⟩
  · exact ⟨none, 0, rfl⟩
  · exact ⟨_, c, h1⟩
/-- The first parts behind one another. -/
def upto (pz : Nat → List R) : Nat → List R
  | 0 => []
  | k + 1 => upto pz k ++ pz k
theorem upto_len (pz : Nat → List R) (k : Nat) : (upto pz (k + 1)).length = (upto pz k).length + (pz k).length := List.length_append
theorem upto_le (pz : Nat → List R) (k d : Nat) : (upto pz k).length ≤ (upto pz (k + d)).length := by
  induction d with
  | zero => exact Nat.le_refl _
  | succ d ih =>
    have := upto_len pz (k + d)
    rw [show k + (d + 1) = k + d + 1 from rfl]
    omega
theorem upto_le' (pz : Nat → List R) {k n : Nat} (h : k ≤ n) : (upto pz k).length ≤ (upto pz n).length := by
  have := upto_le pz k (n - k)
  rwa [show k + (n - k) = n by omega] at this

theorem run_append_none {P : Program} (w : World) (base : Nat) (t ty e : TypeId) (i : TypeInfo) (size : Nat) (ht : P.underlying t = some (.slice e)) (hi : P.info? e = some i)
    (v : Value) (n : Nat) (xs : List Value) (hown : OwnM w base e size v n xs) : (Builtin.append_ #[t, t] ty #[v, .slice none 0 0]).run P w = .ok v w := by
  rcases hown.2 with ⟨rfl, rfl⟩ | ⟨g, off, cap, cur, rfl, hbg, hg, hnc, hcm, hcs, htake⟩
  · simp [Builtin.append_, run_underlying ht, sizeOf, typeInfo, hi, Builtin.lenOf, Builtin.firstCells]
  · simp [Builtin.append_, run_underlying ht, sizeOf, typeInfo, hi, Builtin.lenOf, Builtin.firstCells, hnc, storeCells]

set_option maxRecDepth 100000 in
set_option maxHeartbeats 1000000 in
theorem concat_any (B c n : Nat) (pv : Nat → Value) (pz : Nat → List R) (w : World) (hps : n ≤ 10) (hcell : ∀ j, j < n → w.cell? ⟨B, j, none⟩ = some (pv j))
    (hsl : ∀ j, j < n → SL w (pv j) (pz j)) (hlen : (upto pz n).length ≤ 1000) :
    Calls Tryz.prog 84 #[.slice (some ⟨B, 0, none⟩) n c] w fun e w' => ∃ v, e = .returned v ∧ OwnQ w' w.heap.size v (upto pz n) ∧ Below w.heap.size w w' := by
  obtain ⟨i0, hi, hz0, hz1, hz2⟩ := infoR'
  have HI : Hid (Tryz.prog.info? 26 = some i0) := hi
  clear hi
  have HC : Hid (∀ j, j < n → w.cell? ⟨B, j, none⟩ = some (pv j)) := hcell
  have HS : Hid (∀ j, j < n → SL w (pv j) (pz j)) := hsl
  have HLE : Hid ((upto pz n).length ≤ 1000) := hlen
  clear hcell hsl hlen
  go_enter Tryz.func84, Tryz.ntmps84
  go_wp2_with fail
  go_loopg [3, 5, 11] n (fun gg s3 _ s11 wr => ∃ kk S : Nat, kk ≤ n ∧ n - kk ≤ gg ∧ s11 = .int .i64 kk ∧ s3 = .int .i64 S ∧ Aside (S = (upto pz kk).length) ∧ wr = w)
  case atStart => exact ⟨0, 0, Nat.zero_le _, by omega, rfl, rfl, rfl, rfl⟩
  case round =>
    obtain ⟨kk, S, hkk, hg, rfl, rfl, hS, rfl⟩ := hrel
    by_cases hlt : kk < n
    · have hltz : (kk : Int) < (n : Int) := by omega
      have hin1 : ¬ ((kk : Int) < 0) := by omega
      have c0 := HC.out kk hlt
      obtain ⟨p, cc, hv⟩ := (HS.out kk hlt).form
      obtain ⟨m, hm⟩ : ∃ m, m = (pz kk).length := ⟨_, rfl⟩
      have hle : S + m ≤ 1000 := by
        have h1 := upto_le' pz (show kk + 1 ≤ n by omega)
        have h2 := HLE.out
        have h3 := hS.out
        rw [upto_len] at h1
        omega
      have hSm : Aside (S + m = (upto pz (kk + 1)).length) := by
        show _ = _
        rw [upto_len, ← hm, hS.out]
      rw [hv, ← hm] at c0
      clear hv hm
      have e1 : wrap64 ((S : Int) + (m : Int)) = ((S + m : Nat) : Int) := by unfold wrap64; omega
      have e2 : ¬ (((S + m : Nat) : Int) < 0) := by omega
      go_wp2_with fail
      go_roundg (n - (kk + 1))
      case measure => omega
      case rel => exact ⟨kk + 1, S + m, by omega, by omega, by go_num, rfl, hSm, rfl⟩
    · have hltz : ¬ (kk : Int) < (n : Int) := by omega
      have hk : kk = n := by omega
      subst hk
      obtain ⟨w0, hw0⟩ : ∃ w0, w0 = wr := ⟨_, rfl⟩
      subst hw0
      have hgrow : Hid (Calls Tryz.prog 97 #[.slice none 0 0, .int .i64 (S : Int)] w0 fun e w' => ∃ v, e = .returned v ∧ OwnQ w' w0.heap.size v [] ∧ Below w0.heap.size w0 w') := by
        by_cases h0 : S = 0
        · rw [h0]
          exact (grow_nil0 w0).mono (fun e w' h => ⟨.slice none 0 0, h.1, ⟨rfl, .inl ⟨rfl, rfl⟩⟩, by rw [h.2]; exact Below.refl _ _⟩)
        · exact grow_nil _ (by omega) (by have h1 := HLE.out; have h2 := hS.out; omega) w0
      clear hS
      go_wp2_with fail
      refine hgrow.out.mono ?_
      rintro e w1 ⟨v1, rfl, ho1, hb1⟩
      have HO1 : Hid (OwnQ w1 w0.heap.size v1 []) := ho1
      have HB1 : Hid (Below w0.heap.size w0 w1) := hb1
      clear ho1 hb1 hgrow
      go_wp2_with fail
      go_loopg [6, 8, 27] kk (fun gg s6 _ s27 W => ∃ k2 : Nat, k2 ≤ kk ∧ kk - k2 ≤ gg ∧ s27 = .int .i64 k2 ∧ Aside (OwnQ W w0.heap.size s6 (upto pz k2)) ∧ Aside (Below w0.heap.size w0 W))
      case atStart => exact ⟨0, Nat.zero_le _, by omega, rfl, HO1.out, HB1.out⟩
      case round =>
        obtain ⟨k2, hk2, hg2, rfl, hO, hBW⟩ := hrel
        by_cases hlt2 : k2 < kk
        · have hltz2 : (k2 : Int) < (kk : Int) := by omega
          have hin2 : ¬ ((k2 : Int) < 0) := by omega
          have c0 := keeps hBW.out (HC.out k2 hlt2)
          have hsl : SL wr (pv k2) (pz k2) := (HS.out k2 hlt2).below hBW.out
          have hle : (upto pz (k2 + 1)).length ≤ 1000 := Nat.le_trans (upto_le' pz (show k2 + 1 ≤ kk by omega)) HLE.out
          rw [upto_len] at hle
          rcases hsl with ⟨hv, hz⟩ | ⟨b, o, cp, hv, h2, h3, h4, h5⟩
          · rw [hv] at c0
            have hO2 : Aside (OwnQ wr w0.heap.size u6 (upto pz (k2 + 1))) := by
              show OwnQ _ _ _ _
              rw [show upto pz (k2 + 1) = upto pz k2 ++ pz k2 from rfl, hz, List.append_nil]
              exact hO.out
            have HR : Hid ((Builtin.append_ #[32, 32] 32 #[u6, .slice none 0 0]).run Tryz.prog wr = .ok u6 wr) := run_append_none wr _ _ _ _ i0 5 Tryz.underlying32 HI.out _ _ _ hO.out
            clear hv hz hle hz0 hz1 hz2
            go_wp2_with (at_builtin; refine Lib.wpList_append_run _ rfl _ _ _ _ rfl _ _ rfl rfl _ _ HR.out ?_)
            go_roundg (kk - (k2 + 1))
            case measure => omega
            case rel => exact ⟨k2 + 1, by omega, by omega, by go_num, hO2, hBW⟩
          · rw [hv] at c0
            have HF : Hid (∀ j u, (flat (pz k2))[j]? = some u → wr.cell? ((⟨b, o, none⟩ : Addr).add j) = some u) := lies_flat h5
            clear hv h5
            go_wp2_with (at_builtin; (refine wpList_append_mid _ rfl _ _ 32 rfl w0.heap.size 26 i0 zeroR 5 40 Tryz.underlying32 HI.out hz0 hz1 hz2 rfl u6 _ _ rfl hO.out ⟨b, o, none⟩ (pz k2).length cp (flat (pz k2)) rfl (flat_len _) HF.out (flat_one _) ?c3 ?c4 ?c5 ?_))
            case c3 => unfold maxLen; omega
            case c4 => omega
            case c5 => exact hBW.out.size
            intro v' w' hO' hgr hat
            have hB' : Aside (Below w0.heap.size w0 w') := hBW.out.grown hgr hBW.out.size (fun k hk => (hO.out.lt k hk).1)
            have hO2 : Aside (OwnQ w' w0.heap.size v' (upto pz (k2 + 1))) := by
              show OwnM _ _ _ _ _ _ _
              rw [upto_len, show upto pz (k2 + 1) = upto pz k2 ++ pz k2 from rfl, flat_append]
              exact hO'
            clear hO' hgr hat HF c0
            go_wp2_with fail
            go_roundg (kk - (k2 + 1))
            case measure => omega
            case rel => exact ⟨k2 + 1, by omega, by omega, by go_num, hO2, hB'⟩
        · have hltz2 : ¬ (k2 : Int) < (kk : Int) := by omega
          have hk : k2 = kk := by omega
          subst hk
          go_wp2_with fail
          go_ret
          exact ⟨_, rfl, hO.out, hBW.out⟩

end Go.Proofs.YtmgodofnhjmbfaaGreatDoor.que
