/- Contracts over this seat's translation: side.places at every side; side.Check, side.Best, side.Find. Contracts over this seat's translation: side.Best, side.Find. -/
import Derived.Test.YtnjpjieedgmffaaSidPlace
namespace Go.Proofs.Ytnjpjieedgmffaa.sid
open Go.RowKit Go.Proofs.Ytnjpjieedgmffaa.spn Go.Proofs.Ytnjpjieedgmffaa.que Go.Maps
open Go.Proofs.Ytnjpjieedgmffaa.tickP (priceB sideB betOk betR)

theorem schk_none {s : Int} (h : sideB s = true) : schk s [] = 0 := schk_ok h rfl (by simp [cnt]) (by simp [ids, flatP])
set_option maxRecDepth 100000 in
set_option maxHeartbeats 1000000 in
theorem places_nil (s : Int) (w : World) (hk : sideB s = true) :
    Calls Try.prog 63 #[.int .i64 s, .slice none 0 0] w fun e w' => PlacesPost s [] w e w' := by
  have HS : Hid ([(s, 1, 2)].any spanB = false) := by have := side_span s; rw [hk] at this; exact this
  have HOK : Hid (∀ W B, Below w.heap.size w W → w.heap.size ≤ B → Own W B [] → PlacesPost s [] w (.returned (.tuple #[.map (some B), .nilIface])) W) := fun W B hW hB hO => ⟨hW, .inr ⟨schk_none hk, B, hB, rfl, hO⟩⟩
  generalize PlacesPost s [] w = POST at *
  clear hk
  go_enter Try.func63, Try.ntmps63
  go_wp2_with fail
  refine (side_any s w).mono ?_
  rintro e w1 ⟨rfl, h1⟩
  go_wp2_with fail
  refine (scheck1 false _ _ _ _ _ rfl HS.out).mono ?_
  rintro e w2 ⟨rfl, h2⟩
  simp only [show errV (rangeE false) = .nilIface from rfl]
  have HD : Hid (Below w.heap.size w w2) := h1.trans (h2.mono h1.size)
  clear h1 h2
  go_wp2_with fail
  go_loopg [7, 8, 9, 21] 0 (fun _ _ _ _ s21 wr => s21 = .int .i64 0 ∧ Aside (Below w.heap.size w wr))
  case atStart => exact ⟨rfl, HD.out⟩
  case round =>
    obtain ⟨rfl, BW⟩ := hrel
    go_wp2_with fail
    refine (count_nil _).mono ?_
    rintro e w3 ⟨rfl, h3⟩
    have HW3 : Hid (Below w.heap.size w w3) := BW.out.trans (h3.mono BW.out.size)
    clear h3
    go_wp2_with fail
    refine (see_nil _).mono ?_
    rintro e w4 ⟨rfl, hO, h4⟩
    have HW4 : Hid (Below w.heap.size w w4) := HW3.out.trans (h4.mono HW3.out.size)
    have HX := HOK.out _ _ HW4.out HW3.out.size hO
    have hown : w4.ownsMap Try.prog 3 plR w3.heap.size 0 (.map []) := hO
    have hsz : Maps.size (.map [] : DataW Unit) = 0 := rfl
    clear h4 hO
    generalize w3.heap.size = B at *
    go_wp2_with (at_len; refine wpList_len_own _ rfl _ 109 rfl 3 114 Try.underlying109 plR B _ _ rfl hown ?_; rw [hsz])
    exact HX
/-- places, at every side. -/
theorem places_any (s : Int) (v : Value) (ls : List L) (w : World) (h : LS w v ls) :
    Calls Try.prog 63 #[.int .i64 s, v] w fun e w' => PlacesPost s ls w e w' := by
  cases hk : sideB s
  · rcases h with ⟨rfl, rfl⟩ | ⟨b, o, c, rfl, h2, h3, h4, h5⟩
    · exact places_side s none 0 0 [] w hk
    · exact places_side s (some ⟨b, o, none⟩) _ c ls w hk
  · rcases h with ⟨rfl, rfl⟩ | ⟨b, o, c, rfl, h2, h3, h4, h5⟩
    · exact places_nil s w hk
    · exact places_some s b o c ls w h4 h2 h3 h5 hk

/-- Check, at every side. -/
theorem scheckS_any (s : Int) (v : Value) (ls : List L) (w : World) (h : LS w v ls) :
    Calls Try.prog 48 #[.int .i64 s, v] w fun e w' => e = .returned (errV (schk s ls)) ∧ Below w.heap.size w w' := by
  have hcon := places_any s v ls w h
  generalize hQ : schk s ls = Q
  have HP : Hid (∀ e w', PlacesPost s ls w e w' → Below w.heap.size w w' ∧ ∃ m, e = .returned (.tuple #[.map m, errV Q])) := fun e w' hp => by
    obtain ⟨h1, ⟨_, h3⟩ | ⟨h2, B, _, h3, _⟩⟩ := hp
    · rw [hQ] at h3; exact ⟨h1, _, h3⟩
    · rw [hQ] at h2; rw [h2]; exact ⟨h1, _, h3⟩
  clear h hQ
  generalize errV Q = E at *
  go_enter Try.func48, Try.ntmps48
  go_wp2_with fail
  refine hcon.mono ?_
  rintro e w1 hp
  obtain ⟨h1, m, rfl⟩ := HP.out _ _ hp
  clear hcon HP hp
  go_wp2_with fail
  go_ret
  exact ⟨rfl, h1⟩
end Go.Proofs.Ytnjpjieedgmffaa.sid
namespace Go.Proofs.Ytnjpjieedgmffaa.sid
open Go.RowKit Go.Proofs.Ytnjpjieedgmffaa.spn Go.Proofs.Ytnjpjieedgmffaa.que Go.Maps
open Go.Proofs.Ytnjpjieedgmffaa.tickP (priceB sideB betOk betR)

/-- The best price, and what is wrong. -/
def bestE (s : Int) (ls : List L) : Int := if schk s ls = 0 then (if ls = [] then 5 else 0) else schk s ls
def bestP (s : Int) (ls : List L) : Int := if bestE s ls = 0 then ls[0]!.price else 0

theorem zeroPl (w : World) : (zeroValue 114).run Try.prog w = .ok (.agg #[.int .i64 0, .int .i64 0]) w := by kernel_rfl
/-- 'p, there := seen[id]', with its answer written out. -/
theorem lookup_place {P : Program} (w : World) {ops : Array Oper} {rest : List Oper} {o : Oper} {a : Act} {Q : Exit → Act → World → Prop}
    (hg : o.guard = none) (m x : Operand) (t : TypeId) (hop : o.op = Op.lookup t m x true)
    (k e : TypeId) (K : Keyed P k) (ht : P.underlying t = some (.map k e)) (hz : (zeroValue e).run P w = .ok (.agg #[.int .i64 0, .int .i64 0]) w) (b n : Nat) (D : DataW Unit)
    (hm : a.eval m = .map (some b)) (hown : w.ownsMap P k plR b n D) (key : Value) (kl : Lit) (hx : a.eval x = key) (hkey : keyOf P k key = some kl)
    (i j : Int) (th : Bool) (hat : D.atKey kl (plD 0 0) = plD i j) (hth : Maps.has D kl = th)
    (hK : wpList P ops Q rest (a.put o.dst (.tuple #[.agg #[.int .i64 i, .int .i64 j], .bool th])) w) :
    wpList P ops Q (o :: rest) a w :=
  wpList_lookup_own_ok w hg m x t hop k e K ht plR hz (plD 0 0) [] (plR_mk 0 0) b n D hm hown key kl hx hkey (fun v ps hv => by
    rw [hat] at hv
    rw [plR_inv hv, hth]
    exact hK)

/-- Where an id stands. -/
def findE (s : Int) (ls : List L) (id : Int) : Int := if schk s ls = 0 then (if (lastAt (flatP 0 ls) id).isSome = true then 0 else 5) else schk s ls
def findP (s : Int) (ls : List L) (id : Int) : Int × Int := if findE s ls id = 0 then ((lastAt (flatP 0 ls) id).getD (0, 0, 0)).2 else (0, 0)
theorem has_last (ps : List P3) (id : Int) : Maps.has (mapD ps) (.int .i64 id) = (lastAt ps id).isSome := by
  rw [mapD_has, Bool.eq_iff_iff, lastAt, List.find?_isSome]
  simp
theorem at_last (ps : List P3) (id : Int) : (mapD ps).atKey (.int .i64 id) (plD 0 0) = plD ((lastAt ps id).getD (0, 0, 0)).2.1 ((lastAt ps id).getD (0, 0, 0)).2.2 := by
  rw [mapD_at]; cases lastAt ps id <;> rfl

/-- What Find answers. -/
def findV (s : Int) (ls : List L) (id : Int) : Value := .tuple #[.int .i64 (findP s ls id).1, .int .i64 (findP s ls id).2, errV (findE s ls id)]
theorem find_bad {s : Int} {ls : List L} {id : Int} (h : ¬ schk s ls = 0) : findV s ls id = .tuple #[.int .i64 0, .int .i64 0, errV (schk s ls)] := by
  have e : findE s ls id = schk s ls := if_neg h
  unfold findV findP; rw [e, if_neg h]
theorem find_none {s : Int} {ls : List L} {id : Int} (h : schk s ls = 0) (h2 : lastAt (flatP 0 ls) id = none) : findV s ls id = .tuple #[.int .i64 0, .int .i64 0, .iface 64 (.int .i64 5)] := by
  have e : findE s ls id = 5 := by unfold findE; rw [if_pos h, h2]; rfl
  unfold findV findP; rw [e]; rfl
theorem find_one {s : Int} {ls : List L} {id : Int} (h : schk s ls = 0) {x : P3} (h2 : lastAt (flatP 0 ls) id = some x) : findV s ls id = .tuple #[.int .i64 x.2.1, .int .i64 x.2.2, .nilIface] := by
  have e : findE s ls id = 0 := by unfold findE; rw [if_pos h, h2]; rfl
  unfold findV findP; rw [e, h2]; rfl

set_option maxRecDepth 100000 in
set_option maxHeartbeats 1000000 in
theorem find_any (s : Int) (v : Value) (ls : List L) (id : Int) (w : World) (h : LS w v ls) (hid : (Lit.int .i64 id).wf = true) :
    Calls Try.prog 58 #[.int .i64 s, v, .int .i64 id] w fun e w' => e = .returned (findV s ls id) ∧ Below w.heap.size w w' := by
  have hcon := places_any s v ls w h
  have hkey : keyOf Try.prog 3 (.int .i64 id) = some (.int .i64 id) := keyOf_int_mk Try.underlying3 hid
  clear h hid
  by_cases h0 : schk s ls = 0
  · have HP : Hid (∀ e w', PlacesPost s ls w e w' → Below w.heap.size w w' ∧ ∃ B, e = .returned (.tuple #[.map (some B), .nilIface]) ∧ Own w' B (flatP 0 ls)) := fun e w' hp => by
      obtain ⟨h1, ⟨h2, _⟩ | ⟨_, B, _, h3, h4⟩⟩ := hp
      · exact absurd h0 h2
      · exact ⟨h1, B, h3, h4⟩
    have hh := has_last (flatP 0 ls) id
    have ha := at_last (flatP 0 ls) id
    cases hl : lastAt (flatP 0 ls) id with
    | none =>
      rw [find_none h0 hl]
      rw [hl] at hh ha
      simp only [Option.isSome_none, Option.getD_none] at hh ha
      clear h0 hl
      go_enter Try.func58, Try.ntmps58
      go_wp2_with fail
      refine hcon.mono ?_
      rintro e w1 hp
      obtain ⟨h1, B, rfl, hO⟩ := HP.out _ _ hp
      have hown : w1.ownsMap Try.prog 3 plR B (flatP 0 ls).length (mapD (flatP 0 ls)) := hO
      clear hcon HP hp hO
      go_wp2_with (at_lookup; refine lookup_place _ rfl _ _ 109 rfl 3 114 lawI Try.underlying109 (zeroPl _) B _ _ rfl hown _ _ rfl hkey _ _ _ ha hh ?_)
      go_ret3
      exact ⟨rfl, by first | exact h1 | exact h1.alloc h1.size _⟩
    | some x =>
      rw [find_one h0 hl]
      rw [hl] at hh ha
      simp only [Option.isSome_some, Option.getD_some] at hh ha
      obtain ⟨x1, x2, x3⟩ := x
      simp only [] at hh ha ⊢
      clear h0 hl
      go_enter Try.func58, Try.ntmps58
      go_wp2_with fail
      refine hcon.mono ?_
      rintro e w1 hp
      obtain ⟨h1, B, rfl, hO⟩ := HP.out _ _ hp
      have hown : w1.ownsMap Try.prog 3 plR B (flatP 0 ls).length (mapD (flatP 0 ls)) := hO
      clear hcon HP hp hO
      go_wp2_with (at_lookup; refine lookup_place _ rfl _ _ 109 rfl 3 114 lawI Try.underlying109 (zeroPl _) B _ _ rfl hown _ _ rfl hkey _ _ _ ha hh ?_)
      go_quiet (fail)
      go_wp2_with fail
      go_ret3
      exact ⟨rfl, by first | exact h1 | exact h1.alloc h1.size _ | exact belowN (h1.alloc h1.size _) _⟩
  · rw [find_bad h0, errV_of h0]
    have HP : Hid (∀ e w', PlacesPost s ls w e w' → Below w.heap.size w w' ∧ e = .returned (.tuple #[.map none, .iface 64 (.int .i64 (schk s ls))])) := fun e w' hp => by
      obtain ⟨h1, ⟨_, h3⟩ | ⟨h2, _⟩⟩ := hp
      · rw [errV_of h0] at h3; exact ⟨h1, h3⟩
      · exact absurd h2 h0
    generalize schk s ls = k at HP ⊢
    clear h0
    go_enter Try.func58, Try.ntmps58
    go_wp2_with fail
    refine hcon.mono ?_
    rintro e w1 hp
    obtain ⟨h1, rfl⟩ := HP.out _ _ hp
    clear hcon HP hp
    go_wp2_with fail
    go_ret3
    exact ⟨rfl, h1⟩
end Go.Proofs.Ytnjpjieedgmffaa.sid
